/-
  For every geometry, all events and all calls: NandOneSided returns true (each page that is read covers what it was programmed with since its block was last erased whole, and what it was ahead of an erase that failed or was cut; else it is erased), and its arguments read afterwards as they read before. No condition.
-/
import Derived.Test.YthafcnilhloldaaNMapP
import Derived.Test.YthafcnilhloldaaNCallsOk
import Derived.Test.YthafcnilhloldaaNEvsOk
import Derived.Deep.CutBlock
namespace Go.Proofs.Ythafcnilhloldaa
open Go.ChangeShapes Go.WideShapes Go.ChangeAt Go.RowKit Go.Shelf
theorem page_whole {x y : List Nat} (hx : x.length = 288) (hy : y.length = 288) : (vals y).take 0 ++ vals x ++ (vals y).drop (0 + (vals x).length) = vals x := by
  rw [List.take_zero, List.nil_append, Nat.zero_add, vals_length, hx, List.drop_of_length_le (by rw [vals_length, hy]; exact Nat.le_refl _), List.append_nil]
theorem upto_get (ps : List PageT) (j : Nat) (hj : j < ps.length) : (intsOf (upto ps ps.length))[j]? = some (.int .i64 (j : Int)) := by
  unfold intsOf upto
  rw [List.take_length, List.getElem?_map, List.getElem?_mapIdx, List.getElem?_eq_getElem hj]
  rfl
theorem ints_cell {w : World} {N L cn : Nat} {pn : Option Addr} {ps : List PageT} (h : w.ownsRow N 3 1 (.slice pn L cn) L (intsOf (upto ps ps.length))) (hL : ps.length = L) (h0 : 0 < L) :
    ∃ g, pn = some ⟨g, 0, none⟩ ∧ N ≤ g ∧ g < w.heap.size ∧ ∀ w' : World, w'.heap[g]? = w.heap[g]? → ∀ j, j < L → w'.cell? ⟨g, j, none⟩ = some (.int .i64 (j : Int)) := by
  subst hL
  rcases h.2 with ⟨h1, h2⟩ | ⟨g, cap, cur, h1, hN, hg, _, _, _, ht⟩
  · omega
  · simp only [Value.slice.injEq] at h1
    refine ⟨g, h1.1, hN, (Array.getElem?_eq_some_iff.1 hg).1, fun w' e j hj => ?_⟩
    have hc := upto_get ps j hj
    rw [← ht, Nat.mul_one, List.getElem?_take_of_lt hj] at hc
    have hh : w'.heap[g]? = some (.cells cur 3 (0, 0)) := e.trans hg
    simp only [World.cell?, hh]
    simpa using hc
set_option linter.unusedSimpArgs false in
set_option maxRecDepth 100000 in
set_option maxHeartbeats 8000000 in
theorem sided_walk (gb gp : Int) (p0 : Option Addr) (n0 c0 : Nat) (es : List Ev) (fe : Nat → Option Addr × Nat × Nat) (p1 : Option Addr) (n1 c1 : Nat) (os1 : List CallS) (w : World) (h0 : EvSrc w p0 n0 c0 es fe) (h1 : CallsSrc w p1 n1 c1 os1) :
    Calls Try.prog 5 #[.agg #[.int .i64 gb, .int .i64 gp], .slice p0 n0 c0, .slice p1 n1 c1] w fun e w' => e = .returned (.bool true) ∧ Below w.heap.size w w' := by
  have hz := zeroPage
  obtain ⟨k1, hk1, hk1', hmin1⟩ := min_two n1 200 200 rfl
  have hsl1 := callsPre p1 n1 c1 k1 hk1 h1.cap
  have HL1 : Hid (os1.length = n1) := h1.len
  have hb1 := below_alloc w (.cells #[.int .i64 gb, .int .i64 gp] 23)
  have bg := Blk.new' w 23 #[.int .i64 gb, .int .i64 gp]
  have hsr := h0.below hb1
  have h1w := h1.below hb1
  have hgl := bg.lt
  go_enter Try.func5, Try.ntmps5
  go_wp2_with fail
  generalize w.alloc (.cells #[.int .i64 gb, .int .i64 gp] 23) = W1 at *
  by_cases hgeo : GeoOk gb gp
  · obtain ⟨nb, rfl⟩ : ∃ nb : Nat, gb = (nb : Int) := ⟨gb.toNat, by unfold GeoOk at hgeo; omega⟩
    obtain ⟨np, rfl⟩ : ∃ np : Nat, gp = (np : Int) := ⟨gp.toNat, by unfold GeoOk at hgeo; omega⟩
    cases hoka : okEvs 0 es with
    | true =>
      refine (new_nil nb np _ _ _ es _ _ hsr hgeo hoka).mono ?_
      rintro e w2 ⟨hb2, c, bb, rfl, hcw, hbw, hC2⟩
      have hO2 : ChipOwn (fun _ => False) c bb (newSt nb np es) W1 w2 := by
        refine ⟨_, hC2, ?_, hb2, fun j hj => hj.elim⟩
        rintro j (rfl | rfl | ⟨i, _, he⟩)
        · exact ⟨hcw, fun h => h⟩
        · exact ⟨hbw, fun h => h⟩
        · cases he
      have hkd : Kinds (newSt nb np es) := okEvs_kinds es 0 hoka
      have hs0 : (newSt nb np es).ops = 0 ∧ (newSt nb np es).nb = nb ∧ (newSt nb np es).np = np := ⟨rfl, rfl, rfl⟩
      have HI0 : Hid (Inv (newSt nb np es) (fun _ => none)) := inv_new nb np es
      have HGEO : Hid (4 ≤ np ∧ np ≤ 32 ∧ nb ≤ 256) := by unfold GeoOk at hgeo; exact ⟨by omega, by omega, by omega⟩
      clear hC2 hb2 hcw hbw hsr hoka hgeo
      generalize newSt nb np es = s0 at *
      obtain ⟨so, sn, sp⟩ := hs0
      go_wp2_with fail
      refine (begun_any _).mono ?_
      rintro e w3 ⟨rfl, hb3⟩
      have hO3 := hO2.kept hb3
      clear hO2 hb3
      have hm3 := World.ownsMap_made (H := Unit) w3 Try.prog 3 pageElem
      have hba := below_alloc w3 (.map #[] 0)
      have hO4 : ChipOwn (fun j => j = w3.heap.size) c bb s0 W1 (w3.alloc (.map #[] 0)) := by
        obtain ⟨PV, q1, q2, q3, q4⟩ := hO3.more (U := fun j => j = w3.heap.size) hba (fun j hj => ⟨by omega, by rw [hj, World.size_alloc]; omega⟩)
        exact ⟨PV, q1, fun j hj => ⟨(q2 j hj).1, fun e => (q2 j hj).2 (.inr e)⟩, q3, fun j e => q4 j (.inr e)⟩
      have hlm : W1.heap.size ≤ w3.heap.size := hO3.below.size
      have hmk := run_makeMap (P := Try.prog) 52 w3
      go_upto_region 5 with fail
      generalize hV : w3.alloc (.map #[] 0) = V at *
      generalize w3.heap.size = mb at *
      clear hV hO3 hba
      go_wp2_with fail
      go_loopw [51] (fun i wr => ∃ (k : Nat) (s : St) (D : DataW Unit) (was : Int → Option (List Nat)), k ≤ k1 ∧ i = .int .i64 k ∧ s.ops ≤ k ∧ s.nb = nb ∧ s.np = np ∧ Kinds s ∧ WasD D was ∧ (∀ t P, was t = some P → IsP P) ∧ Inv s was ∧ ChipOwn (fun j => j = mb) c bb s W1 wr ∧ wr.ownsMap Try.prog 3 pageElem mb k D) (fun i _ => k1 - (intOf i).toNat)
      case atStart => exact ⟨0, s0, .map [], fun _ => none, Nat.zero_le _, rfl, by omega, sn, sp, hkd, WasD.zero, (fun t P h => by cases h), HI0.out, hO4, hm3⟩
      case round =>
        clear so sn sp hkd HI0 hO4 hm3
        obtain ⟨k, s, D, was, hk, rfl, hop, hnb, hnp, hkd, hWD, hWP, hI, hO, hmap⟩ := hrel
        have HWD : Hid (WasD D was) := hWD
        have HWP : Hid (∀ t P, was t = some P → IsP P) := hWP
        have HI : Hid (Inv s was) := hI
        have HNB : Hid (s.nb = nb ∧ s.np = np) := ⟨hnb, hnp⟩
        clear hWD hWP hI hnb hnp
        by_cases hlt : k < k1
        · obtain ⟨x, hx⟩ : ∃ x, os1[k]? = some x := ⟨_, List.getElem?_eq_getElem (by rw [HL1.out]; omega)⟩
          obtain ⟨b, o, hp, hlb, hcl⟩ := (h1w.below hO.below).at' (by omega)
          obtain ⟨a0, a1, a2, a3, a4⟩ := hcl k x hx
          have hfx := h1.fill x (List.mem_of_getElem? hx)
          subst hp
          clear hcl hx
          obtain ⟨od, ob, op, nx, f⟩ := x
          dsimp only at a0 a1 a2 a3 a4 hfx
          have hA0 := below_alloc wr (.cells #[.int .i64 od, .int .i64 ob, .int .i64 op, .bool nx, .int .u8 (f : Int)] 39)
          have hB0 := Blk.new' wr 39 #[.int .i64 od, .int .i64 ob, .int .i64 op, .bool nx, .int .u8 (f : Int)]
          have hOl := hO.kept hA0
          obtain ⟨PVl, hCl⟩ := hOl.chip
          have hlk := look_any c s bb PVl ob _ hCl
          obtain ⟨pg, hpg⟩ : ∃ pg, (if nx then lkN s ob else op) = pg := ⟨_, rfl⟩
          have HPG : Hid ((if nx then lkN s ob else op) = pg) := hpg
          clear hpg
          have HLE : Hid (lkE s ob = 0 → 0 ≤ ob ∧ ob < 256) := by
            intro h
            unfold lkE at h
            cases hb : blkAt s ob with
            | none => rw [hb] at h; cases h
            | some kk => obtain ⟨bk, e, hbk, _⟩ := blkAt_in hCl.bll hb; have := hCl.nbl; exact ⟨by omega, by omega⟩
          have HLV : Hid (lkE s ob = 0 ∨ lkE s ob = 22) := by show _ ∨ _; unfold lkE; split; exact .inl rfl; exact .inr rfl
          obtain ⟨lw, hlw⟩ : ∃ lw, lkW s ob = lw := ⟨_, rfl⟩
          obtain ⟨ln, hln⟩ : ∃ ln, lkN s ob = ln := ⟨_, rfl⟩
          obtain ⟨lb, hlb'⟩ : ∃ lb, lkB s ob = lb := ⟨_, rfl⟩
          obtain ⟨le, hle⟩ : ∃ le, lkE s ob = le := ⟨_, rfl⟩
          rw [hlw, hln, hlb', hle] at hlk
          rw [hle] at HLE HLV
          rw [hln] at HPG
          have HLK : Hid (lkW s ob = lw ∧ lkN s ob = ln ∧ lkB s ob = lb) := ⟨hlw, hln, hlb'⟩
          clear hlw hln hlb' hle hCl
          go_upto_region 9 with (go_at_call 20; refine hlk.mono ?_; rintro e X1 ⟨rfl, hx1⟩)
          have hBO := (hB0.kept hx1).alloc (.cells #[.int .i64 lw, .int .i64 ln, .bool lb] 54)
          have hBL := Blk.new' X1 54 #[.int .i64 lw, .int .i64 ln, .bool lb]
          have hbX := hA0.trans ((bt hx1 (below_alloc X1 (.cells #[.int .i64 lw, .int .i64 ln, .bool lb] 54))).mono hA0.size)
          have hOO2 : wr.heap.size < X1.heap.size := Nat.lt_of_lt_of_le hB0.lt hx1.size
          clear hlk hx1 hOl hB0 hA0 a0 a1 a2 a3 a4
          generalize hVV : X1.alloc (.cells #[.int .i64 lw, .int .i64 ln, .bool lb] 54) = VV at *
          clear hVV
          generalize X1.heap.size = O2 at *
          have hmlt := hmap.lt
          have hOV := hO.kept hbX
          have hmV := ownsMap_same hmap (hbX.block mb hmlt)
          rcases HLV.out with rfl | rfl
          · have hob := HLE.out rfl
            have v3 := hBO.cell' (i := 3) rfl
            go_upto_if 65 with fail
            generalize hOO : wr.heap.size = O at *
            go_cut [] from 53 to 184 (fun wc => Blk wc O 39 [.int .i64 od, .int .i64 ob, .int .i64 pg, .bool false, .int .u8 (f : Int)] ∧ Blk wc O2 54 [.int .i64 lw, .int .i64 ln, .bool lb] ∧ Below O wr wc ∧ VV.heap.size ≤ wc.heap.size)
            case first =>
              cases nx with
              | false =>
                obtain rfl : op = pg := HPG.out
                go_wp2_with fail
                go_meet
                case rel => exact ⟨hBO, hBL, hbX, Nat.le_refl _⟩
              | true =>
                obtain rfl : ln = pg := HPG.out
                have v1 := hBL.cell' (i := 1) rfl
                have v2 := hBO.cell' (i := 2) rfl
                have f2 := hBO.frozen 2
                have f3 := hBO.frozen 3
                have hne : O2 ≠ O := by intro e; rw [e] at hBL; rw [Blk] at hBL hBO; rw [hBL] at hBO; simp at hBO
                have hB2 := (hBO.set 2 (.int .i64 ln)).set 3 (.bool false)
                have hL2 := (hBL.setOther ⟨O, 2, none⟩ (.int .i64 ln) hne).setOther ⟨O, 3, none⟩ (.bool false) hne
                have hW2 : Below O wr ((VV.setCell ⟨O, 2, none⟩ (.int .i64 ln)).setCell ⟨O, 3, none⟩ (.bool false)) := (hbX.setCell (Nat.le_refl _) _).setCell (Nat.le_refl _) _
                have t3 := (hBO.set 2 (.int .i64 ln)).cell' (i := 3) rfl
                have t3f := (hBO.set 2 (.int .i64 ln)).frozen 3
                go_wp2_with fail
                go_meet
                case rel => exact ⟨hB2, hL2, hW2, by simp [World.setCell]⟩
            case rest =>
              obtain ⟨hB2, hL2, hW2, hsz2⟩ := hcut
              clear hBO hBL hbX hOV hmV v3
              have hO2 := hO.more (U := fun j => j = O ∨ j = O2) (by rw [hOO]; exact hW2) (fun j hj => by rcases hj with e | e; exact ⟨by omega, by rw [e]; exact hB2.lt⟩; exact ⟨by omega, by rw [e]; exact hL2.lt⟩)
              have hm2 := ownsMap_same hmap (hW2.block mb (by omega))
              clear hO
              obtain ⟨PV4, hC4, hn4⟩ := hO2.call
              have hd := does_any c s bb PV4 ⟨od, ob, pg, false, f⟩ _ hC4 (by omega) hfx
              unfold callV at hd
              dsimp only at hd
              obtain ⟨hnb5, hnp5, hop5⟩ := doesSt_facts s ⟨od, ob, pg, false, f⟩
              have hkd5 := doesSt_kinds hkd ⟨od, ob, pg, false, f⟩
              have HDL : Hid ((doesX s ⟨od, ob, pg, false, f⟩).length = 288) := (doesX_isP hC4 ⟨od, ob, pg, false, f⟩).1
              have HCS : Hid _ := sided_case hC4 hkd ⟨od, ob, pg, false, f⟩ was HI.out
              have hpgY : pgOf s ⟨od, ob, pg, false, f⟩ = pg := rfl
              have u0 := hB2.cell' (i := 0) rfl
              have u1 := hB2.cell' (i := 1) rfl
              have u2 := hB2.cell' (i := 2) rfl
              have u3 := hB2.cell' (i := 3) rfl
              have u4 := hB2.cell' (i := 4) rfl
              rw [hpgY] at HCS
              dsimp only at HCS
              generalize doesX s ⟨od, ob, pg, false, f⟩ = dX at *
              generalize doesE s ⟨od, ob, pg, false, f⟩ = dE at *
              generalize doesSt s ⟨od, ob, pg, false, f⟩ = s5 at *
              rw [HLK.out.2.1] at HCS
              rw [HNB.out.2] at HCS
              go_upto_block 2 with (first
                | (go_at_call 18; refine hd.mono ?_; rintro e w5 ⟨rfl, hA5⟩)
                | (refine wpList_store_blk rfl 46 (.tmp 14) _ rfl _ _ (vals dX) rfl rfl (Blk.new w5 46 (vals (fillP 0))) (by rw [vals_length, vals_length, HDL.out, fillP_length]; exact Nat.le_refl _) (sizeP HDL.out) (vals_one _) ?_; intro w6 h6 ht6))
              have hb6 := ht6.below (below_alloc w5 _) (Nat.le_refl _)
              obtain ⟨hO5, hT5⟩ := hn4 w5 _ hA5 hnb5
              have hO6 := hO5.kept hb6
              have hlt5 : ∀ g, (g = mb ∨ g = O ∨ g = O2) → g < w5.heap.size := by obtain ⟨_, _, _, _, hTT⟩ := hO5; exact hTT
              have hB6 := (blk_of hB2 (hT5 O (.inr (.inl rfl)))).kept hb6
              have hL6 := (blk_of hL2 (hT5 O2 (.inr (.inr rfl)))).kept hb6
              have hm6 := ownsMap_same (ownsMap_same hm2 (hT5 mb (.inl rfl))) (hb6.block mb (hlt5 mb (.inl rfl)))
              clear h6 ht6 hA5 hn4 hd u0 u1 u2 u3 u4 HDL hm2 hmap hb6 hT5 hO5 hB2 hL2 hC4 hlt5 hO2
              have HIS : Hid (Inv s was) := HI.out
              clear HI
              have HN5 : Hid (s5.nb = nb ∧ s5.np = np) := ⟨hnb5.trans HNB.out.1, hnp5.trans HNB.out.2⟩
              clear hnb5 hnp5
              have hlow6 := hO6.below
              go_cut [] from 53 to 184 (fun wc => ∃ (D' : DataW Unit) (was' : Int → Option (List Nat)), WasD D' was' ∧ (∀ t P, was' t = some P → IsP P) ∧ Inv s5 was' ∧ ChipOwn (fun j => j = mb ∨ j = O ∨ j = O2) c bb s5 W1 wc ∧ Blk wc O 39 [.int .i64 od, .int .i64 ob, .int .i64 pg, .bool false, .int .u8 (f : Int)] ∧ wc.ownsMap Try.prog 3 pageElem mb (k + 1) D')
              case first =>
                obtain ⟨PV6, hC6⟩ := hO6.chip
                have y0 := hB6.cell' (i := 0) rfl
                have y1 := hB6.cell' (i := 1) rfl
                have y2 := hB6.cell' (i := 2) rfl
                have y4 := hB6.cell' (i := 4) rfl
                have l0 := hL6.cell' (i := 0) rfl
                have l1 := hL6.cell' (i := 1) rfl
                have l2 := hL6.cell' (i := 2) rfl
                go_upto_region 14 with fail
                obtain ⟨iv, hiv⟩ : ∃ iv, (decide (od = 0) && !decide (lkN s5 ob = ln)) = iv := ⟨_, rfl⟩
                have HIV : Hid ((decide (od = 0) && !decide (lkN s5 ob = ln)) = iv) := hiv
                clear hiv
                go_cut [76] from 53 to 184 (fun v wc => v = .bool iv ∧ Below w6.heap.size w6 wc)
                case first =>
                  by_cases e0 : od = 0
                  · subst e0
                    by_cases hch : lkN s5 ob = ln
                    · obtain ⟨rfl, n0', n25⟩ := HCS.out.1 rfl hch
                      have m0 : (dE == 0) = false := by simpa using n0'
                      have m25 : (dE == 25) = false := by simpa using n25
                      have hcn := changed_no c s5 bb PV6 ob w6 hC6
                      rw [HLK.out.1, HLK.out.2.1, HLK.out.2.2] at hcn
                      have HV : Hid (iv = false) := by show _ = _; rw [← HIV.out, HLK.out.2.1]; simp
                      clear n0' n25 hch
                      by_cases e8 : dE = 8
                      · subst e8
                        clear m0 m25
                        by_cases hlp : ln ≤ pg
                        · go_wp2_with (go_at_call 21; refine (hcn).mono ?_; rintro e Zc ⟨rfl, hzc⟩)
                          go_meet
                          case rel => exact ⟨by rw [HV.out], hzc⟩
                        · have hlp' : pg < ln := by omega
                          go_wp2_with fail
                          go_meet
                          case rel => exact ⟨by rw [HV.out], Below.refl _ _⟩
                      · have m8 : (dE == 8) = false := by simpa using e8
                        clear e8
                        go_wp2_with fail
                        go_meet
                        case rel => exact ⟨by rw [HV.out], Below.refl _ _⟩
                    · obtain ⟨hE, -, -, hlp, -⟩ := HCS.out.2.1 rfl hch
                      have hcy := changed_yes c s5 bb PV6 ob lw ln lb hch w6 hC6
                      have HV : Hid (iv = true) := by show _ = _; rw [← HIV.out]; simp [hch]
                      clear hch
                      rcases hE with rfl | rfl | rfl
                      · go_wp2_with fail
                        go_meet
                        case rel => exact ⟨by rw [HV.out], Below.refl _ _⟩
                      · go_wp2_with fail
                        go_meet
                        case rel => exact ⟨by rw [HV.out], Below.refl _ _⟩
                      · go_wp2_with (go_at_call 21; refine (hcy).mono ?_; rintro e Zc ⟨rfl, hzc⟩)
                        go_meet
                        case rel => exact ⟨by rw [HV.out], hzc⟩
                  · have m0 : (od == 0) = false := by simpa using e0
                    have HV : Hid (iv = false) := by show _ = _; rw [← HIV.out]; simp [e0]
                    clear e0
                    go_wp2_with fail
                    go_meet
                    case rel => exact ⟨by rw [HV.out], Below.refl _ _⟩
                case rest =>
                  obtain ⟨rfl, hbw⟩ := hcut
                  clear hC6 y0 y1 y2 y4 l0 l1 l2
                  have hO7 := hO6.kept hbw
                  have hB7 := hB6.kept hbw
                  have hm7 := ownsMap_same hm6 (hbw.block mb hm6.lt)
                  clear hO6 hB6 hL6 hm6 hbw
                  have y0 := hB7.cell' (i := 0) rfl
                  have y1 := hB7.cell' (i := 1) rfl
                  have y2 := hB7.cell' (i := 2) rfl
                  have y4 := hB7.cell' (i := 4) rfl
                  obtain ⟨mes, mcl, hmb⟩ := ownsMap_block hm7
                  cases iv with
                  | true =>
                    have hiv := HIV.out
                    simp only [Bool.and_eq_true, decide_eq_true_eq, Bool.not_eq_true', decide_eq_false_iff_not] at hiv
                    obtain ⟨e0, hch⟩ := hiv
                    subst e0
                    obtain ⟨-, ⟨q1, q2⟩, ⟨q3, q4⟩, -, HI5⟩ := HCS.out.2.1 rfl hch
                    have HI6 : Hid _ := HI5
                    clear hch HI5
                    obtain ⟨kb, hkb⟩ : ∃ kb, 64 * ob = kb := ⟨_, rfl⟩
                    obtain ⟨kk, hkk⟩ : ∃ kk, kb + pg = kk := ⟨_, rfl⟩
                    have HKK : Hid (64 * ob + pg = kk) := by show _ = _; omega
                    rw [HKK.out] at HI6
                    have hw1 : IntKind.i64.wrap (64 * ob) = kb := by rw [IntKind.wrap_i64]; omega
                    have hw1' : wrap64 (64 * ob) = kb := (IntWalk.i64_left _).symm.trans hw1
                    have hw2 : IntKind.i64.wrap (kb + pg) = kk := by rw [IntKind.wrap_i64]; omega
                    have hw2' : wrap64 (kb + pg) = kk := (IntWalk.i64_left _).symm.trans hw2
                    have HKR : Hid (-100000 ≤ kk ∧ kk ≤ 100000) := ⟨by omega, by omega⟩
                    clear hkb hkk q1 q2 q3 q4
                    go_wp2_with fail
                    have hltO := hB7.lt
                    have hneO : O ≠ mb := fun e => by rw [e, Blk, hmb] at hB7; cases hB7
                    have hKC : ∀ w', Keep (fun j => j = mb) wc w' → ∀ i, w'.cell? ⟨O, i, none⟩ = wc.cell? ⟨O, i, none⟩ := fun w' h i => World.cell?_of_block (a := ⟨O, i, none⟩) (h.block O hltO hneO)
                    refine wp_region_noPanic ?_
                    refine wp_region_held_drew (S := fun w' => Keep (fun j => j = mb) wc w') (by kernel_rfl) (Keep.of_below ((Below.refl _ _).drew)) (fun hHeld => ?_)
                    refine wpAnyH_take (i := 0) (v := ?_) rfl (by kernel_rfl) (by kernel_rfl) (by kernel_rfl) (fun _ _ _ h => h) (Or.inl ⟨by rfl, ?_⟩) hHeld ?_
                    rotate_left
                    · intro w' hSw; try dsimp only at hSw
                      go_simp; try (with_reducible rfl)
                    try simp only [Act.put, List.getElem_toArray, List.getElem_cons_succ, List.getElem_cons_zero, List.setIfInBounds_toArray, List.set_cons_zero, List.set_cons_succ]
                    refine wpAnyH_take (i := 1) (v := ?_) rfl (by kernel_rfl) (by kernel_rfl) (by kernel_rfl) (fun _ _ _ h => h) (Or.inl ⟨by rfl, ?_⟩) hHeld ?_
                    rotate_left
                    · intro w' hSw; try dsimp only at hSw
                      go_simp; try (with_reducible rfl)
                    try simp only [Act.put, List.getElem_toArray, List.getElem_cons_succ, List.getElem_cons_zero, List.setIfInBounds_toArray, List.set_cons_zero, List.set_cons_succ]
                    refine wpAnyH_take (i := 2) (v := ?_) rfl (by kernel_rfl) (by kernel_rfl) (by kernel_rfl) (fun _ _ _ h => h) (Or.inl ⟨by rfl, ?_⟩) hHeld ?_
                    rotate_left
                    · intro w' hSw; try dsimp only at hSw
                      have z := (hKC w' hSw 1).trans y1
                      go_simp; try (with_reducible rfl)
                    try simp only [Act.put, List.getElem_toArray, List.getElem_cons_succ, List.getElem_cons_zero, List.setIfInBounds_toArray, List.set_cons_zero, List.set_cons_succ]
                    refine wpAnyH_take (i := 3) (v := ?_) rfl (by kernel_rfl) (by kernel_rfl) (by kernel_rfl) (fun _ _ _ h => h) (Or.inl ⟨by rfl, ?_⟩) hHeld ?_
                    rotate_left
                    · intro w' hSw; try dsimp only at hSw
                      go_simp; try (with_reducible rfl)
                    try simp only [Act.put, List.getElem_toArray, List.getElem_cons_succ, List.getElem_cons_zero, List.setIfInBounds_toArray, List.set_cons_zero, List.set_cons_succ]
                    refine wpAnyH_take (i := 4) (v := ?_) rfl (by kernel_rfl) (by kernel_rfl) (by kernel_rfl) (fun _ _ _ h => h) (Or.inl ⟨by rfl, ?_⟩) hHeld ?_
                    rotate_left
                    · intro w' hSw; try dsimp only at hSw
                      go_simp; try (with_reducible rfl)
                    try simp only [Act.put, List.getElem_toArray, List.getElem_cons_succ, List.getElem_cons_zero, List.setIfInBounds_toArray, List.set_cons_zero, List.set_cons_succ]
                    refine wpAnyH_take (i := 5) (v := ?_) rfl (by kernel_rfl) (by kernel_rfl) (by kernel_rfl) (fun _ _ _ h => h) (Or.inl ⟨by rfl, ?_⟩) hHeld ?_
                    rotate_left
                    · intro w' hSw; try dsimp only at hSw
                      have z := (hKC w' hSw 2).trans y2
                      go_simp; try (with_reducible rfl)
                    try simp only [Act.put, List.getElem_toArray, List.getElem_cons_succ, List.getElem_cons_zero, List.setIfInBounds_toArray, List.set_cons_zero, List.set_cons_succ]
                    refine wpAnyH_take (i := 6) (v := ?_) rfl (by kernel_rfl) (by kernel_rfl) (by kernel_rfl) (fun _ _ _ h => h) (Or.inl ⟨by rfl, ?_⟩) hHeld ?_
                    rotate_left
                    · intro w' hSw; try dsimp only at hSw
                      go_simp; try (with_reducible rfl)
                    try simp only [Act.put, List.getElem_toArray, List.getElem_cons_succ, List.getElem_cons_zero, List.setIfInBounds_toArray, List.set_cons_zero, List.set_cons_succ]
                    refine wpAnyH_take (i := 7) (v := ?_) rfl (by kernel_rfl) (by kernel_rfl) (by kernel_rfl) (fun _ _ _ h => h) (Or.inl ⟨by rfl, ?_⟩) hHeld ?_
                    rotate_left
                    · intro w' hSw; try dsimp only at hSw
                      go_simp; try (with_reducible rfl)
                    try simp only [Act.put, List.getElem_toArray, List.getElem_cons_succ, List.getElem_cons_zero, List.setIfInBounds_toArray, List.set_cons_zero, List.set_cons_succ]
                    refine wpAnyH_take (i := 8) (v := ?_) rfl (by kernel_rfl) (by kernel_rfl) (by kernel_rfl) (fun _ _ _ h => h) (Or.inl ⟨by rfl, ?_⟩) hHeld ?_
                    rotate_left
                    · intro w' hSw; try dsimp only at hSw
                      have z := (hKC w' hSw 4).trans y4
                      go_simp; try (with_reducible rfl)
                    try simp only [Act.put, List.getElem_toArray, List.getElem_cons_succ, List.getElem_cons_zero, List.setIfInBounds_toArray, List.set_cons_zero, List.set_cons_succ]
                    refine wpAnyH_ready (rs := [9]) (by kernel_rfl) (by simp) ?_
                    refine AllReadyH.cons rfl (fun K hK => ?_) AllReadyH.nil
                    go_simp
                    refine (page_any f _).mono ?_
                    rintro e Z1 ⟨rfl, hz1⟩
                    try go_wp2_with fail
                    have hmZ := ownsMap_same hm7 (hz1.block mb hm7.lt)
                    have hOZ := hO7.kept (wr := wc) (w' := Z1) ⟨hz1.os, hz1.tape, hz1.output, hz1.size, hz1.block⟩
                    have hBZ := hB7.kept (w' := Z1) ⟨hz1.os, hz1.tape, hz1.output, hz1.size, hz1.block⟩
                    obtain ⟨mes2, mcl2, hmb2⟩ := ownsMap_block hmZ
                    refine hK.out _ _ (Keep.of_below (w := wc) ⟨hz1.os, hz1.tape, hz1.output, hz1.size, hz1.block⟩) (fun hHeld => ?_)
                    clear hK K
                    try simp only [Act.put, List.getElem_toArray, List.getElem_cons_succ, List.getElem_cons_zero, List.setIfInBounds_toArray, List.set_cons_zero, List.set_cons_succ]
                    refine wpAnyH_ready (rs := [10]) (by kernel_rfl) (by simp) ?_
                    refine AllReadyH.cons rfl (fun K hK => ?_) AllReadyH.nil
                    refine wp_mapUpdate_page (.tmp 106) (.tmp 112) (.tmp 115) rfl mb k D was rfl hmZ (by unfold maxLen; omega) HWD.out kk HKR.out.1 HKR.out.2 rfl (fillP f) rfl ?_
                    intro Z2 hmZ2 hWZ2 hgZ2
                    have hBZ2 := blk_of hBZ (hgZ2.block O hBZ.lt (fun e => hneO (by injection e)))
                    have hOZ2 := hOZ.turned hgZ2 (.inl rfl) hlm hmb2
                    refine hK.out _ _ (hHeld.trans (Keep.of_grown (S := fun j => j = mb) hgZ2 (fun k e _ => by cases e; rfl)) (fun _ _ h => h)) (fun hHeld => ?_)
                    clear hK K
                    try simp only [Act.put, List.getElem_toArray, List.getElem_cons_succ, List.getElem_cons_zero, List.setIfInBounds_toArray, List.set_cons_zero, List.set_cons_succ]
                    refine wpAnyH_done (by kernel_rfl) ?_ _
                    refine NoPanic.normal ?_
                    go_wp2_with fail
                    go_meet
                    case rel => exact ⟨_, _, hWZ2, (fun t P h => by split at h; cases h; exact isP_fill f hfx; exact HWP.out t P h), HI6.out, hOZ2, hBZ2, hmZ2⟩
                  | false =>
                    by_cases e1 : od = 1
                    · subst e1
                      by_cases e2 : dE = 0
                      · subst e2
                        have HI7 : Hid _ := HCS.out.2.2.1 rfl rfl
                        have bg2 := bg.below hO7.below hgl
                        have g1 := bg2.cell' (i := 1) rfl
                        have hGEO := HGEO.out
                        clear hmb
                        go_wp2_with fail
                        go_loopw [126] (fun i wr' => ∃ (j : Nat) (D' : DataW Unit), j ≤ np ∧ i = .int .i64 j ∧ WasD D' (fun t => if 64 * ob ≤ t ∧ t < 64 * ob + (j : Int) then none else was t) ∧ ChipOwn (fun j => j = mb ∨ j = O ∨ j = O2) c bb s5 W1 wr' ∧ Blk wr' O 39 [.int .i64 1, .int .i64 ob, .int .i64 pg, .bool false, .int .u8 (f : Int)] ∧ wr'.ownsMap Try.prog 3 pageElem mb k D') (fun i _ => np - (intOf i).toNat)
                        case atStart => exact ⟨0, D, Nat.zero_le _, rfl, by have e : (fun t => if 64 * ob ≤ t ∧ t < 64 * ob + ((0 : Nat) : Int) then none else was t) = was := by { funext t; rw [if_neg (by omega)] }; rw [e]; exact HWD.out, hO7, hB7, hm7⟩
                        case round =>
                          clear hO7 hB7 hm7 y0 y1 y2 y4 bg2 g1
                          obtain ⟨j, D', hj, rfl, hWj, hOj, hBj, hmj⟩ := hrel
                          have HWJ : Hid _ := hWj
                          clear hWj
                          by_cases hlj : j < np
                          · have y1 := hBj.cell' (i := 1) rfl
                            obtain ⟨mes3, mcl3, hmb3⟩ := ownsMap_block hmj
                            have hneO : O ≠ mb := fun e => by rw [e, Blk, hmb3] at hBj; cases hBj
                            have hlj' : (j : Int) < (np : Int) := by omega
                            obtain ⟨kb, hkb⟩ : ∃ kb, 64 * ob = kb := ⟨_, rfl⟩
                            obtain ⟨kk, hkk⟩ : ∃ kk, kb + (j : Int) = kk := ⟨_, rfl⟩
                            have HKK : Hid (64 * ob + (j : Int) = kk) := by show _ = _; omega
                            have hw1 : IntKind.i64.wrap (64 * ob) = kb := by rw [IntKind.wrap_i64]; omega
                            have hw1' : wrap64 (64 * ob) = kb := (IntWalk.i64_left _).symm.trans hw1
                            have hw2 : IntKind.i64.wrap (kb + (j : Int)) = kk := by rw [IntKind.wrap_i64]; omega
                            have hw2' : wrap64 (kb + (j : Int)) = kk := (IntWalk.i64_left _).symm.trans hw2
                            have HKR : Hid (-100000 ≤ kk ∧ kk ≤ 100000) := ⟨by omega, by omega⟩
                            clear hkb hkk
                            go_wp2_with (at_delete; refine wpList_delete_page _ rfl (.tmp 129) (.tmp 134) rfl mb k D' _ rfl hmj HWJ.out kk HKR.out.1 HKR.out.2 rfl ?_; intro Z2 D2 hmZ2 hWZ2 hgZ2)
                            have hBZ2 := blk_of hBj (hgZ2.block O hBj.lt (fun e => hneO (by injection e)))
                            have hOZ2 := hOj.turned hgZ2 (.inl rfl) hlm hmb3
                            go_roundw
                            case rel =>
                              refine ⟨j + 1, D2, by omega, by go_num, ?_, hOZ2, hBZ2, hmZ2⟩
                              have e : (fun t => if t = kk then none else if 64 * ob ≤ t ∧ t < 64 * ob + (j : Int) then none else was t) = (fun t => if 64 * ob ≤ t ∧ t < 64 * ob + ((j + 1 : Nat) : Int) then none else was t) := by
                                funext t
                                have := HKK.out
                                by_cases h1 : t = kk
                                · rw [if_pos h1, if_pos (by omega)]
                                · rw [if_neg h1]
                                  by_cases h2 : 64 * ob ≤ t ∧ t < 64 * ob + (j : Int)
                                  · rw [if_pos h2, if_pos (by omega)]
                                  · rw [if_neg h2, if_neg (by omega)]
                              rw [← e]; exact hWZ2
                            case measure => simp [intOf]; omega
                          · obtain rfl : j = np := by omega
                            go_wp2_with fail
                            go_meet
                            case rel => exact ⟨D', _, HWJ.out, (fun t P h => by split at h; cases h; exact HWP.out t P h), HI7.out, hOj, hBj, hmj.mono (by omega)⟩
                      · have m2 : (dE == 0) = false := by simpa using e2
                        have HI7 : Hid _ := HCS.out.2.2.2.1 rfl e2
                        clear e2
                        go_wp2_with fail
                        go_meet
                        case rel => exact ⟨D, was, HWD.out, HWP.out, HI7.out, hO7, hB7, hm7.mono (by omega)⟩
                    · have m1 : (od == 1) = false := by simpa using e1
                      have HI7 : Hid (Inv s5 was) := by
                        by_cases e0 : od = 0
                        · have hiv := HIV.out
                          simp only [e0, decide_true, Bool.true_and, Bool.not_eq_false', decide_eq_true_eq] at hiv
                          have := (HCS.out.1 e0 hiv).1
                          rw [this]
                          exact HIS.out
                        · exact HCS.out.2.2.2.2 e0 e1
                      clear e1
                      go_wp2_with fail
                      go_meet
                      case rel => exact ⟨D, was, HWD.out, HWP.out, HI7.out, hO7, hB7, hm7.mono (by omega)⟩
              case rest =>
                clear hO6 hB6 hL6 hm6 HCS HWD HWP hlow6
                obtain ⟨D', was', hWD, hWP, hI5, hO7, hB7, hm7⟩ := hcut
                have HWD : Hid (WasD D' was') := hWD
                have HWP : Hid (∀ t P, was' t = some P → IsP P) := hWP
                have HI : Hid (Inv s5 was') := hI5
                clear hWD hWP hI5
                have y1 := hB7.cell' (i := 1) rfl
                obtain ⟨PV6, hC6⟩ := hO7.chip
                obtain ⟨hQP, hQL⟩ := pagesOf_isP hC6 ob
                have hqa := pages_any c s5 bb PV6 ob wc hC6
                obtain ⟨qs, hqs⟩ := toPages hQP
                rw [← hqs] at hqa
                have hql : qs.length ≤ 32 := by rw [← List.length_map (f := (·.1)), hqs]; exact hQL
                have HPG2 : Hid (∀ j, j < qs.length → (qs.map (·.1))[j]? = some (pgAt s5 ob j) ∧ IsP (pgAt s5 ob j) ∧ j < np) := by
                  intro j hj
                  have hj' : j < (pagesOf s5 ob).length := by rw [← hqs, List.length_map]; exact hj
                  refine ⟨by rw [hqs]; exact pgAt_get hj', pgAt_isP hC6 ob j, ?_⟩
                  have : (pagesOf s5 ob).length ≤ s5.np := by unfold pagesOf; split; exact Nat.le_of_eq (allP_length _ _); exact Nat.zero_le _
                  have := HN5.out.2
                  omega
                go_upto_region 23 with (first
                  | (go_at_call 23; refine hqa.mono ?_; rintro e w7 ⟨B7, v7, rfl, hB7s, hcv7, hpv7, hov7, hb7⟩)
                  | (go_at_call 22; refine (lpages_any B7 v7 qs _ hcv7 hpv7 hql).mono ?_; rintro e w8 ⟨vn8, vl8, rfl, hrn8, hrl8, hb8⟩; obtain ⟨pn8, cn8, rfl⟩ := owns_slice hrn8; obtain ⟨pl8, cl8, rfl⟩ := owns_slice hrl8))
                have hQ8 : PagesIn w8 (.slice pl8 qs.length cl8) (qs.map (·.1)) := ⟨by rw [List.length_map]; exact owns_zero hrl8, fun p hp => by rw [hqs] at hp; exact hQP p hp⟩
                have hb78 := bt hb7 hb8
                have hO8 := hO7.kept hb78
                have hB8 := hB7.kept hb78
                have hm8 := ownsMap_same hm7 (hb78.block mb hm7.lt)
                clear hqa hcv7 hpv7 hov7 hB7s hb7 hb8 hC6 hO7 hB7 hm7 hb78 hQL hrl8 y1 hqs hQP
                obtain ⟨L8, hL8⟩ : ∃ L8, qs.length = L8 := ⟨_, rfl⟩
                have HL8 : Hid (qs.length = L8) := hL8
                rw [hL8] at hql HPG2 ⊢
                clear hL8
                go_wp2_with fail
                go_loopw [146] (fun i wr' => ∃ j : Nat, j ≤ L8 ∧ i = .int .i64 j ∧ Below w8.heap.size w8 wr') (fun i _ => L8 - (intOf i).toNat)
                case atStart => exact ⟨0, Nat.zero_le _, rfl, Below.refl _ _⟩
                case round =>
                  obtain ⟨j, hj, rfl, hbj⟩ := hrel
                  by_cases hlj : j < L8
                  · obtain ⟨hPj, hPP, hjn⟩ := HPG2.out j hlj
                    have HA : Hid ((pgAt s5 ob j).length = 288) := hPP.1
                    obtain ⟨gi, hgi, _, hgl8, hcg⟩ := ints_cell hrn8 rfl (by rw [HL8.out]; omega)
                    subst hgi
                    have hnj := hcg wr (hbj.block gi hgl8) j (by rw [HL8.out]; exact hlj)
                    clear hcg
                    have hne : qs.map (·.1) ≠ [] := fun h => by have := congrArg List.length h; rw [List.length_map, List.length_nil, HL8.out] at this; omega
                    obtain ⟨g2, cp2, cu2, hv2, _⟩ := hQ8.at' hne
                    simp only [Value.slice.injEq] at hv2
                    obtain ⟨hg2, -, -⟩ := hv2
                    subst hg2
                    clear hne
                    have hQj := hQ8.below hbj
                    have hR2 : ∀ W', PagesIn W' (.slice (some ⟨g2, 0, none⟩) qs.length cl8) (qs.map (·.1)) → W'.rangeAt g2 (j * 288) (vals (pgAt s5 ob j)) := fun W' h => by have h' := h; rw [show qs.length = (qs.map (·.1)).length from by rw [List.length_map]] at h'; exact h'.range j _ hPj
                    have hInv := HI.out ob j hob.1 (by rw [HN5.out.2]; exact hjn)
                    have hBj := hB8.kept hbj
                    have y1 := hBj.cell' (i := 1) rfl
                    have hmj := ownsMap_same hm8 (hbj.block mb hm8.lt)
                    have hlj' : (j : Int) < (L8 : Int) := by omega
                    have hGEO := HGEO.out
                    obtain ⟨kb, hkb⟩ : ∃ kb, 64 * ob = kb := ⟨_, rfl⟩
                    obtain ⟨kk, hkk⟩ : ∃ kk, kb + (j : Int) = kk := ⟨_, rfl⟩
                    have HKK : Hid (64 * ob + (j : Int) = kk) := by show _ = _; omega
                    rw [HKK.out] at hInv
                    have hw1 : IntKind.i64.wrap (64 * ob) = kb := by rw [IntKind.wrap_i64]; omega
                    have hw1' : wrap64 (64 * ob) = kb := (IntWalk.i64_left _).symm.trans hw1
                    have hw2 : IntKind.i64.wrap (kb + (j : Int)) = kk := by rw [IntKind.wrap_i64]; omega
                    have hw2' : wrap64 (kb + (j : Int)) = kk := (IntWalk.i64_left _).symm.trans hw2
                    have HKR : Hid (-100000 ≤ kk ∧ kk ≤ 100000) := ⟨by omega, by omega⟩
                    clear hkb hkk hjn
                    generalize hBB : pgAt s5 ob j = BB at *
                    clear hBB
                    obtain ⟨pw, hpw⟩ : ∃ pw, (was' kk).getD (fillP 0) = pw := ⟨_, rfl⟩
                    obtain ⟨iw, hiw⟩ : ∃ iw, (was' kk).isSome = iw := ⟨_, rfl⟩
                    have HPW : Hid (IsP pw) := by show IsP _; rw [← hpw]; cases h : was' kk with | none => exact isP_fill 0 (by omega) | some P => exact HWP.out kk P h
                    have HPL : Hid (pw.length = 288) := HPW.out.1
                    have HIW : Hid ((iw = false → BB = blankP) ∧ (iw = true → covers BB pw = true)) := by
                      refine ⟨fun h => ?_, fun h => ?_⟩
                      · cases hw : was' kk with
                        | none => rw [hw] at hInv; exact cov_blank hPP hInv
                        | some P => rw [← hiw, hw] at h; cases h
                      · cases hw : was' kk with
                        | none => rw [← hiw, hw] at h; cases h
                        | some P => rw [hw] at hInv; rw [← hpw, hw]; exact hInv
                    clear hInv
                    go_upto_region 27 with (first
                      | (at_lookup; refine wpList_lookup_page _ rfl (.tmp 152) (.tmp 157) rfl mb (k + 1) D' was' rfl hmj HWD.out kk HKR.out.1 HKR.out.2 rfl ?_; rw [hpw, hiw])
                      | (refine wpList_store_blk rfl 46 (.tmp 21) _ rfl _ _ (vals pw) rfl rfl (Blk.new wr 46 (vals (fillP 0))) (by rw [vals_length, vals_length, HPL.out, fillP_length]; exact Nat.le_refl _) (sizeP HPL.out) (vals_one _) ?_; intro w9 h9 ht9))
                    have hb9 := ht9.below (below_alloc wr _) (Nat.le_refl _)
                    rw [page_whole HPL.out (fillP_length 0)] at h9
                    have hbj9 := hbj.trans (hb9.mono hbj.size)
                    have hQ9 := hQj.below hb9
                    generalize wr.heap.size = G9 at *
                    cases iw with
                    | false =>
                      have hBl : BB = blankP := HIW.out.1 rfl
                      have hqF := fun W => run_equalIn_page W BB (fillP 255) HA.out (fillP_length _)
                      rw [show (BB == fillP 255) = true from by rw [hBl]; simp] at hqF
                      clear hBl
                      skip
                      refine wp_region_noPanic ?_
                      refine wp_region_held_drew (S := fun w' => Below w9.heap.size w9 w') (by kernel_rfl) ((Below.refl _ _).drew) (fun hHeld => ?_)
                      refine wpAnyH_take (i := 0) (v := ?_) rfl (by kernel_rfl) (by kernel_rfl) (by kernel_rfl) (fun _ _ _ h => h) (Or.inl ⟨by rfl, ?_⟩) hHeld ?_
                      rotate_left
                      · intro w' hSw; try dsimp only at hSw
                        go_simp; try (with_reducible rfl)
                      try simp only [Act.put, List.getElem_toArray, List.getElem_cons_succ, List.getElem_cons_zero, List.setIfInBounds_toArray, List.set_cons_zero, List.set_cons_succ]
                      refine wpAnyH_take (i := 1) (v := ?_) rfl (by kernel_rfl) (by kernel_rfl) (by kernel_rfl) (fun _ _ _ h => h) (Or.inl ⟨by rfl, ?_⟩) hHeld ?_
                      rotate_left
                      · intro w' hSw; try dsimp only at hSw
                        go_simp; try (with_reducible rfl)
                      try simp only [Act.put, List.getElem_toArray, List.getElem_cons_succ, List.getElem_cons_zero, List.setIfInBounds_toArray, List.set_cons_zero, List.set_cons_succ]
                      refine wpAnyH_take (i := 2) (v := ?_) rfl (by kernel_rfl) (by kernel_rfl) (by kernel_rfl) (fun _ _ _ h => h) (Or.inl ⟨by rfl, ?_⟩) hHeld ?_
                      rotate_left
                      · intro w' hSw; try dsimp only at hSw
                        go_simp; try (with_reducible rfl)
                      try simp only [Act.put, List.getElem_toArray, List.getElem_cons_succ, List.getElem_cons_zero, List.setIfInBounds_toArray, List.set_cons_zero, List.set_cons_succ]
                      refine wpAnyH_take (i := 3) (v := ?_) rfl (by kernel_rfl) (by kernel_rfl) (by kernel_rfl) (fun _ _ _ h => h) (Or.inl ⟨by rfl, ?_⟩) hHeld ?_
                      rotate_left
                      · intro w' hSw; try dsimp only at hSw
                        go_simp; try (with_reducible rfl)
                      try simp only [Act.put, List.getElem_toArray, List.getElem_cons_succ, List.getElem_cons_zero, List.setIfInBounds_toArray, List.set_cons_zero, List.set_cons_succ]
                      refine wpAnyH_take (i := 4) (v := ?_) rfl (by kernel_rfl) (by kernel_rfl) (by kernel_rfl) (fun _ _ _ h => h) (Or.inl ⟨by rfl, ?_⟩) hHeld ?_
                      rotate_left
                      · intro w' hSw; try dsimp only at hSw
                        go_simp; try (with_reducible rfl)
                      try simp only [Act.put, List.getElem_toArray, List.getElem_cons_succ, List.getElem_cons_zero, List.setIfInBounds_toArray, List.set_cons_zero, List.set_cons_succ]
                      refine wpAnyH_take (i := 5) (v := ?_) rfl (by kernel_rfl) (by kernel_rfl) (by kernel_rfl) (fun _ _ _ h => h) (Or.inl ⟨by rfl, ?_⟩) hHeld ?_
                      rotate_left
                      · intro w' hSw; try dsimp only at hSw
                        go_simp; try (with_reducible rfl)
                      try simp only [Act.put, List.getElem_toArray, List.getElem_cons_succ, List.getElem_cons_zero, List.setIfInBounds_toArray, List.set_cons_zero, List.set_cons_succ]
                      refine wpAnyH_take (i := 6) (v := .agg (vals BB).toArray) rfl (by kernel_rfl) (by kernel_rfl) (by kernel_rfl) (fun _ _ _ h => h) (yieldsIf_load_mid (by rfl) _ _ rfl (g2) (j * 288) rfl (vals BB) _ (fun w' hSw => hR2 _ (hQ9.below hSw)) Try.underlying46 rfl (sizeP HA.out)) hHeld ?_
                      try simp only [Act.put, List.getElem_toArray, List.getElem_cons_succ, List.getElem_cons_zero, List.setIfInBounds_toArray, List.set_cons_zero, List.set_cons_succ]
                      refine wpAnyH_ready (rs := [7]) (by kernel_rfl) (by simp) ?_
                      refine AllReadyH.cons rfl (fun K hK => ?_) AllReadyH.nil
                      rw [if_pos (by rfl)]
                      go_simp
                      refine (page_any 255 _).mono ?_
                      rintro e Z1 ⟨rfl, hz1⟩
                      try go_wp2_with fail
                      refine hK.out _ _ (hHeld.trans (hz1.mono hHeld.size)) (fun hHeld => ?_)
                      clear hK K
                      try simp only [Act.put, List.getElem_toArray, List.getElem_cons_succ, List.getElem_cons_zero, List.setIfInBounds_toArray, List.set_cons_zero, List.set_cons_succ]
                      refine wpAnyH_take (i := 8) (v := ?_) rfl (by kernel_rfl) (by kernel_rfl) (by kernel_rfl) (fun _ _ _ h => h) (Or.inl ⟨by rfl, ?_⟩) hHeld ?_
                      rotate_left
                      · intro w' hSw; try dsimp only at hSw
                        go_simp; try (with_reducible rfl)
                      try simp only [Act.put, List.getElem_toArray, List.getElem_cons_succ, List.getElem_cons_zero, List.setIfInBounds_toArray, List.set_cons_zero, List.set_cons_succ]
                      refine wpAnyH_take (i := 9) (v := ?_) rfl (by kernel_rfl) (by kernel_rfl) (by kernel_rfl) (fun _ _ _ h => h) (Or.inl ⟨by rfl, ?_⟩) hHeld ?_
                      rotate_left
                      · intro w' hSw; try dsimp only at hSw
                        go_simp; try (with_reducible rfl)
                      try simp only [Act.put, List.getElem_toArray, List.getElem_cons_succ, List.getElem_cons_zero, List.setIfInBounds_toArray, List.set_cons_zero, List.set_cons_succ]
                      refine wpAnyH_take (i := 10) (v := ?_) rfl (by kernel_rfl) (by kernel_rfl) (by kernel_rfl) (fun _ _ _ h => h) (Or.inl ⟨by rfl, ?_⟩) hHeld ?_
                      rotate_left
                      · intro w' hSw; try dsimp only at hSw
                        go_simp; try (with_reducible rfl)
                      try simp only [Act.put, List.getElem_toArray, List.getElem_cons_succ, List.getElem_cons_zero, List.setIfInBounds_toArray, List.set_cons_zero, List.set_cons_succ]
                      refine wpAnyH_take (i := 11) (v := ?_) rfl (by kernel_rfl) (by kernel_rfl) (by kernel_rfl) (fun _ _ _ h => h) (Or.inl ⟨by rfl, ?_⟩) hHeld ?_
                      rotate_left
                      · intro w' hSw; try dsimp only at hSw
                        go_simp; try (with_reducible rfl)
                      try simp only [Act.put, List.getElem_toArray, List.getElem_cons_succ, List.getElem_cons_zero, List.setIfInBounds_toArray, List.set_cons_zero, List.set_cons_succ]
                      refine wpAnyH_take (i := 12) (v := ?_) rfl (by kernel_rfl) (by kernel_rfl) (by kernel_rfl) (fun _ _ _ h => h) (Or.inl ⟨by rfl, ?_⟩) hHeld ?_
                      rotate_left
                      · intro w' hSw; try dsimp only at hSw
                        go_simp; try (with_reducible rfl)
                      try simp only [Act.put, List.getElem_toArray, List.getElem_cons_succ, List.getElem_cons_zero, List.setIfInBounds_toArray, List.set_cons_zero, List.set_cons_succ]
                      refine wpAnyH_take (i := 13) (v := undef) rfl (by kernel_rfl) (by kernel_rfl) (by kernel_rfl) (fun _ _ _ h => h) (Or.inr ⟨by rfl, rfl⟩) hHeld ?_
                      try simp only [Act.put, List.getElem_toArray, List.getElem_cons_succ, List.getElem_cons_zero, List.setIfInBounds_toArray, List.set_cons_zero, List.set_cons_succ]
                      refine wpAnyH_take (i := 14) (v := undef) rfl (by kernel_rfl) (by kernel_rfl) (by kernel_rfl) (fun _ _ _ h => h) (Or.inr ⟨by rfl, rfl⟩) hHeld ?_
                      try simp only [Act.put, List.getElem_toArray, List.getElem_cons_succ, List.getElem_cons_zero, List.setIfInBounds_toArray, List.set_cons_zero, List.set_cons_succ]
                      refine wpAnyH_take (i := 15) (v := undef) rfl (by kernel_rfl) (by kernel_rfl) (by kernel_rfl) (fun _ _ _ h => h) (Or.inr ⟨by rfl, rfl⟩) hHeld ?_
                      try simp only [Act.put, List.getElem_toArray, List.getElem_cons_succ, List.getElem_cons_zero, List.setIfInBounds_toArray, List.set_cons_zero, List.set_cons_succ]
                      refine wpAnyH_take (i := 16) (v := undef) rfl (by kernel_rfl) (by kernel_rfl) (by kernel_rfl) (fun _ _ _ h => h) (Or.inr ⟨by rfl, rfl⟩) hHeld ?_
                      try simp only [Act.put, List.getElem_toArray, List.getElem_cons_succ, List.getElem_cons_zero, List.setIfInBounds_toArray, List.set_cons_zero, List.set_cons_succ]
                      refine wpAnyH_take (i := 17) (v := undef) rfl (by kernel_rfl) (by kernel_rfl) (by kernel_rfl) (fun _ _ _ h => h) (Or.inr ⟨by rfl, rfl⟩) hHeld ?_
                      try simp only [Act.put, List.getElem_toArray, List.getElem_cons_succ, List.getElem_cons_zero, List.setIfInBounds_toArray, List.set_cons_zero, List.set_cons_succ]
                      refine wpAnyH_take (i := 18) (v := undef) rfl (by kernel_rfl) (by kernel_rfl) (by kernel_rfl) (fun _ _ _ h => h) (Or.inr ⟨by rfl, rfl⟩) hHeld ?_
                      try simp only [Act.put, List.getElem_toArray, List.getElem_cons_succ, List.getElem_cons_zero, List.setIfInBounds_toArray, List.set_cons_zero, List.set_cons_succ]
                      refine wpAnyH_take (i := 19) (v := undef) rfl (by kernel_rfl) (by kernel_rfl) (by kernel_rfl) (fun _ _ _ h => h) (Or.inr ⟨by rfl, rfl⟩) hHeld ?_
                      try simp only [Act.put, List.getElem_toArray, List.getElem_cons_succ, List.getElem_cons_zero, List.setIfInBounds_toArray, List.set_cons_zero, List.set_cons_succ]
                      refine wpAnyH_take (i := 20) (v := ?_) rfl (by kernel_rfl) (by kernel_rfl) (by kernel_rfl) (fun _ _ _ h => h) (Or.inl ⟨by rfl, ?_⟩) hHeld ?_
                      rotate_left
                      · intro w' hSw; try dsimp only at hSw
                        go_simp; try (with_reducible rfl)
                      try simp only [Act.put, List.getElem_toArray, List.getElem_cons_succ, List.getElem_cons_zero, List.setIfInBounds_toArray, List.set_cons_zero, List.set_cons_succ]
                      refine wpAnyH_take (i := 21) (v := ?_) rfl (by kernel_rfl) (by kernel_rfl) (by kernel_rfl) (fun _ _ _ h => h) (Or.inl ⟨by rfl, ?_⟩) hHeld ?_
                      rotate_left
                      · intro w' hSw; try dsimp only at hSw
                        go_simp; try (with_reducible rfl)
                      try simp only [Act.put, List.getElem_toArray, List.getElem_cons_succ, List.getElem_cons_zero, List.setIfInBounds_toArray, List.set_cons_zero, List.set_cons_succ]
                      refine wpAnyH_done (by kernel_rfl) ?_ _
                      refine NoPanic.normal ?_
                      go_wp2_with fail
                      go_roundw
                      case rel => exact ⟨j + 1, by omega, by go_num, hbj9.trans (hHeld.mono hbj9.size)⟩
                      case measure => simp [intOf]; omega
                    | true =>
                      have HCV : Hid (covers BB pw = true) := HIW.out.2 rfl
                      refine wp_region_noPanic ?_
                      refine wp_region_held_drew (S := fun w' => Below w9.heap.size w9 w') (by kernel_rfl) ((Below.refl _ _).drew) (fun hHeld => ?_)
                      refine wpAnyH_take (i := 0) (v := ?_) rfl (by kernel_rfl) (by kernel_rfl) (by kernel_rfl) (fun _ _ _ h => h) (Or.inl ⟨by rfl, ?_⟩) hHeld ?_
                      rotate_left
                      · intro w' hSw; try dsimp only at hSw
                        go_simp; try (with_reducible rfl)
                      try simp only [Act.put, List.getElem_toArray, List.getElem_cons_succ, List.getElem_cons_zero, List.setIfInBounds_toArray, List.set_cons_zero, List.set_cons_succ]
                      refine wpAnyH_take (i := 1) (v := ?_) rfl (by kernel_rfl) (by kernel_rfl) (by kernel_rfl) (fun _ _ _ h => h) (Or.inl ⟨by rfl, ?_⟩) hHeld ?_
                      rotate_left
                      · intro w' hSw; try dsimp only at hSw
                        go_simp; try (with_reducible rfl)
                      try simp only [Act.put, List.getElem_toArray, List.getElem_cons_succ, List.getElem_cons_zero, List.setIfInBounds_toArray, List.set_cons_zero, List.set_cons_succ]
                      refine wpAnyH_take (i := 2) (v := ?_) rfl (by kernel_rfl) (by kernel_rfl) (by kernel_rfl) (fun _ _ _ h => h) (Or.inl ⟨by rfl, ?_⟩) hHeld ?_
                      rotate_left
                      · intro w' hSw; try dsimp only at hSw
                        go_simp; try (with_reducible rfl)
                      try simp only [Act.put, List.getElem_toArray, List.getElem_cons_succ, List.getElem_cons_zero, List.setIfInBounds_toArray, List.set_cons_zero, List.set_cons_succ]
                      refine wpAnyH_take (i := 3) (v := undef) rfl (by kernel_rfl) (by kernel_rfl) (by kernel_rfl) (fun _ _ _ h => h) (Or.inr ⟨by rfl, rfl⟩) hHeld ?_
                      try simp only [Act.put, List.getElem_toArray, List.getElem_cons_succ, List.getElem_cons_zero, List.setIfInBounds_toArray, List.set_cons_zero, List.set_cons_succ]
                      refine wpAnyH_take (i := 4) (v := undef) rfl (by kernel_rfl) (by kernel_rfl) (by kernel_rfl) (fun _ _ _ h => h) (Or.inr ⟨by rfl, rfl⟩) hHeld ?_
                      try simp only [Act.put, List.getElem_toArray, List.getElem_cons_succ, List.getElem_cons_zero, List.setIfInBounds_toArray, List.set_cons_zero, List.set_cons_succ]
                      refine wpAnyH_take (i := 5) (v := undef) rfl (by kernel_rfl) (by kernel_rfl) (by kernel_rfl) (fun _ _ _ h => h) (Or.inr ⟨by rfl, rfl⟩) hHeld ?_
                      try simp only [Act.put, List.getElem_toArray, List.getElem_cons_succ, List.getElem_cons_zero, List.setIfInBounds_toArray, List.set_cons_zero, List.set_cons_succ]
                      refine wpAnyH_take (i := 6) (v := undef) rfl (by kernel_rfl) (by kernel_rfl) (by kernel_rfl) (fun _ _ _ h => h) (Or.inr ⟨by rfl, rfl⟩) hHeld ?_
                      try simp only [Act.put, List.getElem_toArray, List.getElem_cons_succ, List.getElem_cons_zero, List.setIfInBounds_toArray, List.set_cons_zero, List.set_cons_succ]
                      refine wpAnyH_take (i := 7) (v := undef) rfl (by kernel_rfl) (by kernel_rfl) (by kernel_rfl) (fun _ _ _ h => h) (Or.inr ⟨by rfl, rfl⟩) hHeld ?_
                      try simp only [Act.put, List.getElem_toArray, List.getElem_cons_succ, List.getElem_cons_zero, List.setIfInBounds_toArray, List.set_cons_zero, List.set_cons_succ]
                      refine wpAnyH_take (i := 8) (v := undef) rfl (by kernel_rfl) (by kernel_rfl) (by kernel_rfl) (fun _ _ _ h => h) (Or.inr ⟨by rfl, rfl⟩) hHeld ?_
                      try simp only [Act.put, List.getElem_toArray, List.getElem_cons_succ, List.getElem_cons_zero, List.setIfInBounds_toArray, List.set_cons_zero, List.set_cons_succ]
                      refine wpAnyH_take (i := 9) (v := ?_) rfl (by kernel_rfl) (by kernel_rfl) (by kernel_rfl) (fun _ _ _ h => h) (Or.inl ⟨by rfl, ?_⟩) hHeld ?_
                      rotate_left
                      · intro w' hSw; try dsimp only at hSw
                        go_simp; try (with_reducible rfl)
                      try simp only [Act.put, List.getElem_toArray, List.getElem_cons_succ, List.getElem_cons_zero, List.setIfInBounds_toArray, List.set_cons_zero, List.set_cons_succ]
                      refine wpAnyH_take (i := 10) (v := ?_) rfl (by kernel_rfl) (by kernel_rfl) (by kernel_rfl) (fun _ _ _ h => h) (Or.inl ⟨by rfl, ?_⟩) hHeld ?_
                      rotate_left
                      · intro w' hSw; try dsimp only at hSw
                        go_simp; try (with_reducible rfl)
                      try simp only [Act.put, List.getElem_toArray, List.getElem_cons_succ, List.getElem_cons_zero, List.setIfInBounds_toArray, List.set_cons_zero, List.set_cons_succ]
                      refine wpAnyH_take (i := 11) (v := ?_) rfl (by kernel_rfl) (by kernel_rfl) (by kernel_rfl) (fun _ _ _ h => h) (Or.inl ⟨by rfl, ?_⟩) hHeld ?_
                      rotate_left
                      · intro w' hSw; try dsimp only at hSw
                        go_simp; try (with_reducible rfl)
                      try simp only [Act.put, List.getElem_toArray, List.getElem_cons_succ, List.getElem_cons_zero, List.setIfInBounds_toArray, List.set_cons_zero, List.set_cons_succ]
                      refine wpAnyH_take (i := 12) (v := ?_) rfl (by kernel_rfl) (by kernel_rfl) (by kernel_rfl) (fun _ _ _ h => h) (Or.inl ⟨by rfl, ?_⟩) hHeld ?_
                      rotate_left
                      · intro w' hSw; try dsimp only at hSw
                        go_simp; try (with_reducible rfl)
                      try simp only [Act.put, List.getElem_toArray, List.getElem_cons_succ, List.getElem_cons_zero, List.setIfInBounds_toArray, List.set_cons_zero, List.set_cons_succ]
                      refine wpAnyH_take (i := 13) (v := ?_) rfl (by kernel_rfl) (by kernel_rfl) (by kernel_rfl) (fun _ _ _ h => h) (Or.inl ⟨by rfl, ?_⟩) hHeld ?_
                      rotate_left
                      · intro w' hSw; try dsimp only at hSw
                        go_simp; try (with_reducible rfl)
                      try simp only [Act.put, List.getElem_toArray, List.getElem_cons_succ, List.getElem_cons_zero, List.setIfInBounds_toArray, List.set_cons_zero, List.set_cons_succ]
                      refine wpAnyH_take (i := 14) (v := ?_) rfl (by kernel_rfl) (by kernel_rfl) (by kernel_rfl) (fun _ _ _ h => h) (Or.inl ⟨by rfl, ?_⟩) hHeld ?_
                      rotate_left
                      · intro w' hSw; try dsimp only at hSw
                        go_simp; try (with_reducible rfl)
                      try simp only [Act.put, List.getElem_toArray, List.getElem_cons_succ, List.getElem_cons_zero, List.setIfInBounds_toArray, List.set_cons_zero, List.set_cons_succ]
                      refine wpAnyH_take (i := 15) (v := ?_) rfl (by kernel_rfl) (by kernel_rfl) (by kernel_rfl) (fun _ _ _ h => h) (Or.inl ⟨by rfl, ?_⟩) hHeld ?_
                      rotate_left
                      · intro w' hSw; try dsimp only at hSw
                        go_simp; try (with_reducible rfl)
                      try simp only [Act.put, List.getElem_toArray, List.getElem_cons_succ, List.getElem_cons_zero, List.setIfInBounds_toArray, List.set_cons_zero, List.set_cons_succ]
                      refine wpAnyH_take (i := 16) (v := .agg (vals BB).toArray) rfl (by kernel_rfl) (by kernel_rfl) (by kernel_rfl) (fun _ _ _ h => h) (yieldsIf_load_mid (by rfl) _ _ rfl (g2) (j * 288) rfl (vals BB) _ (fun w' hSw => hR2 _ (hQ9.below hSw)) Try.underlying46 rfl (sizeP HA.out)) hHeld ?_
                      try simp only [Act.put, List.getElem_toArray, List.getElem_cons_succ, List.getElem_cons_zero, List.setIfInBounds_toArray, List.set_cons_zero, List.set_cons_succ]
                      refine wpAnyH_take (i := 17) (v := .agg (vals pw).toArray) rfl (by kernel_rfl) (by kernel_rfl) (by kernel_rfl) (fun _ _ _ h => h) (yieldsIf_load_mid (by rfl) _ _ rfl (G9) (0) rfl (vals pw) _ (fun w' hSw => (h9.kept hSw).page HPL.out) Try.underlying46 rfl (sizeP HPL.out)) hHeld ?_
                      try simp only [Act.put, List.getElem_toArray, List.getElem_cons_succ, List.getElem_cons_zero, List.setIfInBounds_toArray, List.set_cons_zero, List.set_cons_succ]
                      refine wpAnyH_ready (rs := [18]) (by kernel_rfl) (by simp) ?_
                      refine AllReadyH.cons rfl (fun K hK => ?_) AllReadyH.nil
                      rw [if_pos (by rfl)]
                      go_simp
                      refine (lcovers_any BB pw hPP HPW.out _).mono ?_
                      rintro e Z1 ⟨rfl, hz1⟩
                      rw [HCV.out]
                      try go_wp2_with fail
                      refine hK.out _ _ (hHeld.trans (hz1.mono hHeld.size)) (fun hHeld => ?_)
                      clear hK K
                      try simp only [Act.put, List.getElem_toArray, List.getElem_cons_succ, List.getElem_cons_zero, List.setIfInBounds_toArray, List.set_cons_zero, List.set_cons_succ]
                      refine wpAnyH_take (i := 19) (v := ?_) rfl (by kernel_rfl) (by kernel_rfl) (by kernel_rfl) (fun _ _ _ h => h) (Or.inl ⟨by rfl, ?_⟩) hHeld ?_
                      rotate_left
                      · intro w' hSw; try dsimp only at hSw
                        go_simp; try (with_reducible rfl)
                      try simp only [Act.put, List.getElem_toArray, List.getElem_cons_succ, List.getElem_cons_zero, List.setIfInBounds_toArray, List.set_cons_zero, List.set_cons_succ]
                      refine wpAnyH_take (i := 20) (v := ?_) rfl (by kernel_rfl) (by kernel_rfl) (by kernel_rfl) (fun _ _ _ h => h) (Or.inl ⟨by rfl, ?_⟩) hHeld ?_
                      rotate_left
                      · intro w' hSw; try dsimp only at hSw
                        go_simp; try (with_reducible rfl)
                      try simp only [Act.put, List.getElem_toArray, List.getElem_cons_succ, List.getElem_cons_zero, List.setIfInBounds_toArray, List.set_cons_zero, List.set_cons_succ]
                      refine wpAnyH_take (i := 21) (v := ?_) rfl (by kernel_rfl) (by kernel_rfl) (by kernel_rfl) (fun _ _ _ h => h) (Or.inl ⟨by rfl, ?_⟩) hHeld ?_
                      rotate_left
                      · intro w' hSw; try dsimp only at hSw
                        go_simp; try (with_reducible rfl)
                      try simp only [Act.put, List.getElem_toArray, List.getElem_cons_succ, List.getElem_cons_zero, List.setIfInBounds_toArray, List.set_cons_zero, List.set_cons_succ]
                      refine wpAnyH_done (by kernel_rfl) ?_ _
                      refine NoPanic.normal ?_
                      go_wp2_with fail
                      go_roundw
                      case rel => exact ⟨j + 1, by omega, by go_num, hbj9.trans (hHeld.mono hbj9.size)⟩
                      case measure => simp [intOf]; omega
                  · have hjj : ¬ j < L8 := hlj
                    have hO9 := hO8.kept hbj
                    have hm9 := ownsMap_same hm8 (hbj.block mb hm8.lt)
                    clear hO8 hm8 hB8 hQ8 hrn8
                    have hOx : ChipOwn (fun j => j = mb) c bb s5 W1 wr := by
                      obtain ⟨PV, q1, q2, q3, q4⟩ := hO9
                      exact ⟨PV, q1, fun j hj => ⟨(q2 j hj).1, fun e => (q2 j hj).2 (.inl e)⟩, q3, fun j e => q4 j (.inl e)⟩
                    go_wp2_with fail
                    go_roundw
                    case rel => exact ⟨k + 1, s5, D', was', by omega, by go_num, by omega, HN5.out.1, HN5.out.2, hkd5, HWD.out, HWP.out, HI.out, hOx, hm9⟩
                    case measure => simp [intOf]; omega
          · go_wp2_with fail
            go_roundw
            case rel => exact ⟨k + 1, s, D, was, by omega, by go_num, by omega, HNB.out.1, HNB.out.2, hkd, HWD.out, HWP.out, HI.out, hOV, hmV.mono (by omega)⟩
            case measure => simp [intOf]; omega
        · have hkk : ¬ k < k1 := hlt
          go_wp2
          go_ret
          exact ⟨rfl, hb1.trans (hO.below.mono hb1.size)⟩
    | false =>
      refine (new_evbad nb np _ _ _ es _ _ hsr hgeo hoka).mono ?_
      rintro e w2 ⟨rfl, hb2⟩
      go_wp2_with fail
      refine (begun_any _).mono ?_
      rintro e w3 ⟨rfl, hb3⟩
      go_wp2_with fail
      refine (begun_any _).mono ?_
      rintro e w4 ⟨rfl, hb4⟩
      go_wp2
      go_ret
      exact ⟨rfl, bt (bt (bt hb1 hb2) hb3) hb4⟩
  · refine (new_bad gb gp _ _ _ _ hgeo).mono ?_
    rintro e w2 ⟨rfl, hb2⟩
    go_wp2_with fail
    refine (begun_any _).mono ?_
    rintro e w3 ⟨rfl, hb3⟩
    go_wp2_with fail
    refine (begun_any _).mono ?_
    rintro e w4 ⟨rfl, hb4⟩
    go_wp2
    go_ret
    exact ⟨rfl, bt (bt (bt hb1 hb2) hb3) hb4⟩
set_option maxRecDepth 100000 in
theorem sided_lifted (os : Os) (started : os.Started) (H : Type) (enc : TypeId × Value → H) :
    ReturnsInHanded {} Try.checked os 5 .any (Rows.nandOneSidedSpec.pre6 enc Try.prog Try.f5 Rows.nandOneSidedRow.domain false) (Rows.nandOneSidedSpec.post enc Try.prog Try.f5 false true false false) := by
  refine returnsInHanded_of_change_sized (C := Try.checked) own started (by kernel_rfl) Try.func5
    (ChangeSpec.witness6 (enc := enc) (C := Try.checked) false ⟨#[], #[.agg #[.int .i64 0, .int .i64 0], .slice none 0 0, .slice none 0 0], []⟩ 8 (by kernel_rfl) (by kernel_rfl) (by kernel_rfl) (by kernel_rfl)) ?_
  intro W base args ds gs before hval0 hW hcnd hsz0 _
  have hval : ∀ (j : Nat) t v, Try.f5.params[j]? = some t → args[j]? = some v → Value.okWide Try.prog W .any base t v := hval0
  have hsz : (DataW.weightsEach Try.prog (Try.f5.params.toList ++ Rows.nandOneSidedSpec.plain.varTypes Try.prog) (ds ++ gs)).all (· ≤ reachBytes) = true := hsz0
  have hW' := hW
  obtain ⟨p, q, hA0, hV, rfl, hfz, hnd⟩ := hW
  have hA : DataW.TrodAll enc Try.prog W 0 (fun _ => true) true Try.f5.params.toList args.toList ds p := hA0
  rw [Try.params5] at hA hval hsz
  obtain ⟨v0, vs0, d0, ds0, p0, q0, hargs, rfl, rfl, h0, r0⟩ := trodAll_cons hA
  obtain ⟨v1, vs1, d1, ds1, p1, q1, rfl, rfl, rfl, h1, r1⟩ := trodAll_cons r0
  obtain ⟨v2, vs2, d2, ds2, p2, q2, rfl, rfl, rfl, h2, r2⟩ := trodAll_cons r1
  obtain ⟨rfl, rfl, rfl⟩ := trodAll_nil r2
  obtain rfl : args = #[v0, v1, v2] := by cases args; simp_all
  obtain ⟨rfl, rfl⟩ := trodVars_none hV
  obtain ⟨gb, gp, rfl, _, _⟩ := okGeo (hval 0 23 v0 rfl rfl)
  obtain ⟨a1, len1, cap1, rfl⟩ := okWide_slice Try.underlying25 (hval 1 25 v1 rfl rfl)
  obtain ⟨a2, len2, cap2, rfl⟩ := okWide_slice Try.underlying37 (hval 2 37 v2 rfl rfl)
  have lt0 : ∀ x ∈ p0, x.block < W.heap.size := by obtain ⟨m, hm⟩ := h0; exact DataW.trod_lt m _ _ _ hm
  have lt1 : ∀ x ∈ p1, x.block < W.heap.size := by obtain ⟨m, hm⟩ := h1; exact DataW.trod_lt m _ _ _ hm
  have lt2 : ∀ x ∈ p2, x.block < W.heap.size := by obtain ⟨m, hm⟩ := h2; exact DataW.trod_lt m _ _ _ hm
  obtain ⟨es1, fe1, ho1⟩ := openEvents h1 hsz (j := 1) rfl rfl
  obtain ⟨os2, ho2⟩ := openCalls h2
  clear hA0 hval0 hsz0
  refine (sided_walk gb gp a1 len1 cap1 es1 fe1 a2 len2 cap2 os2 W ho1 ho2).mono fun e W' ⟨he, bel⟩ => ?_
  subst he
  exact ⟨_, rfl, _, _, _, [], _, [], hW', trodAll_mk1 (shut_bool Try.underlying4 _), (trodAll_cons_mk (Below.trod laidOut (by kernel_rfl) (of_decide_eq_true (by kernel_rfl)) h0 bel lt0) (trodAll_cons_mk (Below.trod laidOut (by kernel_rfl) (of_decide_eq_true (by kernel_rfl)) h1 bel lt1) (trodAll_cons_mk (Below.trod laidOut (by kernel_rfl) (of_decide_eq_true (by kernel_rfl)) h2 bel lt2) trodAll_mk0))), rfl, bel.frame _, fun h => by cases h⟩
theorem nandOneSided_holds : Rows.NandOneSidedSaid :=
  OpenClaim.holds_of_wide 5 Try.f5 rfl rfl rfl rfl rfl rfl rfl ⟨rfl, rfl, rfl, rfl, rfl⟩ rfl rfl rfl rfl rfl (by kernel_rfl) Try.func5 (by kernel_rfl)
    (of_decide_eq_true (by kernel_rfl)) (by unfold Func.isWrapper; first | (rw [if_pos (by decide +kernel)]; kernel_rfl) | (rw [if_neg (by decide +kernel)]; exact ⟨rfl, rfl⟩))
    (fun os started H enc _ => sided_lifted os started H enc)
#print axioms nandOneSided_holds
end Go.Proofs.Ythafcnilhloldaa
