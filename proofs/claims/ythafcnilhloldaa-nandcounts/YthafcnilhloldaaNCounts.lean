/-
  For every geometry, all events and all calls: NandCounts returns true (there were as many operations as programs and erases that had no error, failed, or by which the power went; the wears are the erases among these; pages are programmed in order), and its arguments read afterwards as they read before. No condition.
-/
import Derived.Test.YthafcnilhloldaaNCountsP
import Derived.Test.YthafcnilhloldaaNCallsOk
import Derived.Test.YthafcnilhloldaaNEvsOk
import Derived.Test.YthafcnilhloldaaNLPages2
import Derived.Deep.CutRange
namespace Go.Proofs.Ythafcnilhloldaa
open Go.ChangeShapes Go.WideShapes Go.ChangeAt Go.RowKit Go.Shelf
theorem chip_on {c : Nat} {s : St} {bb : Nat} {PV : Nat → Value} {w : World} (h : ChipIn w c s bb PV) : Calls Try.prog 25 #[.pointer (some ⟨c, 0, none⟩)] w fun e w' => e = .returned (.bool s.on) ∧ w' = w := by
  obtain ⟨ep, el, ec, hc, _⟩ := h.chip
  exact on_any c _ s.nb s.nb s.on w (by have := h.nbl; omega) (hc.cell' (i := 2) rfl) (hc.cell' (i := 5) rfl)
theorem chip_ops {c : Nat} {s : St} {bb : Nat} {PV : Nat → Value} {w : World} (h : ChipIn w c s bb PV) : Calls Try.prog 26 #[.pointer (some ⟨c, 0, none⟩)] w fun e w' => e = .returned (.int .i64 (s.ops : Int)) ∧ w' = w := by
  obtain ⟨ep, el, ec, hc, _⟩ := h.chip
  exact ops_any c _ s.nb s.nb s.ops w (by have := h.nbl; omega) (hc.cell' (i := 2) rfl) (hc.cell' (i := 4) rfl)
theorem keyLit_int (t : Int) : WideAt.IsKeyLit (.int .i64 t) := trivial
theorem wf_i64 {a : Int} (h0 : -1000 ≤ a) (h1 : a ≤ 1000) : (Lit.int .i64 a).wf = true := by
  simp [Lit.wf, IntKind.min, IntKind.max, IntKind.signed, IntKind.bits]
  omega
set_option linter.unusedSimpArgs false in
set_option maxRecDepth 100000 in
set_option maxHeartbeats 8000000 in
theorem counts_walk (gb gp : Int) (p0 : Option Addr) (n0 c0 : Nat) (es : List Ev) (fe : Nat → Option Addr × Nat × Nat) (p1 : Option Addr) (n1 c1 : Nat) (os1 : List CallS) (w : World) (h0 : EvSrc w p0 n0 c0 es fe) (h1 : CallsSrc w p1 n1 c1 os1) :
    Calls Try.prog 7 #[.agg #[.int .i64 gb, .int .i64 gp], .slice p0 n0 c0, .slice p1 n1 c1] w fun e w' => e = .returned (.bool true) ∧ Below w.heap.size w w' := by
  have hz := zeroPage
  obtain ⟨k1, hk1, hk1', hmin1⟩ := min_two n1 200 200 rfl
  have hsl1 := callsPre p1 n1 c1 k1 hk1 h1.cap
  have HL1 : Hid (os1.length = n1) := h1.len
  have hb1 := below_alloc w (.cells #[.int .i64 gb, .int .i64 gp] 23)
  have bg := Blk.new' w 23 #[.int .i64 gb, .int .i64 gp]
  have hsr := h0.below hb1
  have h1w := h1.below hb1
  have hgl := bg.lt
  go_enter Try.func7, Try.ntmps7
  go_wp2_with fail
  generalize w.alloc (.cells #[.int .i64 gb, .int .i64 gp] 23) = W1 at *
  by_cases hgeo : GeoOk gb gp
  · obtain ⟨nb, rfl⟩ : ∃ nb : Nat, gb = (nb : Int) := ⟨gb.toNat, by unfold GeoOk at hgeo; omega⟩
    obtain ⟨np, rfl⟩ : ∃ np : Nat, gp = (np : Int) := ⟨gp.toNat, by unfold GeoOk at hgeo; omega⟩
    cases hoka : okEvs 0 es with
    | true =>
      refine (new_nil nb np _ _ _ es _ _ hsr hgeo hoka).mono ?_
      rintro e w2 ⟨hb2, c, bb, rfl, hcw, hbw, hC2⟩
      have hO2 : ChipOwn (fun _ => False) c bb (newSt nb np es) W1 w2 := by
        refine ⟨_, hC2, ?_, hb2, fun j hj => hj.elim⟩
        rintro j (rfl | rfl | ⟨i, _, he⟩)
        · exact ⟨hcw, fun h => h⟩
        · exact ⟨hbw, fun h => h⟩
        · cases he
      have hkd : Kinds (newSt nb np es) := okEvs_kinds es 0 hoka
      have hs0 : (newSt nb np es).ops = 0 ∧ (newSt nb np es).nb = nb ∧ sumW (newSt nb np es).bl = 0 := ⟨rfl, rfl, by simp [newSt, sumW]⟩
      have HL0 : Hid (∀ t, (0 : Int) ≤ lkN (newSt nb np es) t) := fun t => by unfold lkN; split <;> omega
      have HGEO : Hid (16 ≤ nb ∧ nb ≤ 256) := by unfold GeoOk at hgeo; exact ⟨by omega, by omega⟩
      clear hC2 hb2 hcw hbw hsr hoka hgeo
      generalize newSt nb np es = s0 at *
      obtain ⟨so, sn, sw⟩ := hs0
      go_wp2_with fail
      refine (begun_any _).mono ?_
      rintro e w3 ⟨rfl, hb3⟩
      have hO3 := hO2.kept hb3
      clear hO2 hb3
      have hm3 := World.ownsMap_made (H := Unit) w3 Try.prog 3 (plainElem Try.prog 3)
      have hba := below_alloc w3 (.map #[] 0)
      have hO4 : ChipOwn (fun j => j = w3.heap.size) c bb s0 W1 (w3.alloc (.map #[] 0)) := by
        obtain ⟨PV, q1, q2, q3, q4⟩ := hO3.more (U := fun j => j = w3.heap.size) hba (fun j hj => ⟨by omega, by rw [hj, World.size_alloc]; omega⟩)
        exact ⟨PV, q1, fun j hj => ⟨(q2 j hj).1, fun e => (q2 j hj).2 (.inr e)⟩, q3, fun j e => q4 j (.inr e)⟩
      have hlm : W1.heap.size ≤ w3.heap.size := hO3.below.size
      have hmk := run_makeMap (P := Try.prog) 68 w3
      go_upto_region 6 with fail
      generalize hV : w3.alloc (.map #[] 0) = V at *
      generalize w3.heap.size = mb at *
      clear hV hO3 hba
      go_wp2_with fail
      go_loopw [9, 10, 52] (fun v9 v10 i wr => ∃ (k : Nat) (s : St) (D : DataW Unit) (last : Int → Int), k ≤ k1 ∧ i = .int .i64 k ∧ v9 = .int .i64 (s.ops : Int) ∧ v10 = .int .i64 ((sumW s.bl : Nat) : Int) ∧ s.ops ≤ k ∧ sumW s.bl ≤ k ∧ s.nb = nb ∧ Kinds s ∧ (∀ t, D.atKey (.int .i64 t) (.lit (.int .i64 0)) = .lit (.int .i64 (last t))) ∧ (∀ t, last t ≤ lkN s t) ∧ ChipOwn (fun j => j = mb) c bb s W1 wr ∧ wr.ownsMap Try.prog 3 (plainElem Try.prog 3) mb k D) (fun _ _ i _ => k1 - (intOf i).toNat)
      case atStart => exact ⟨0, s0, .map [], fun _ => 0, Nat.zero_le _, rfl, by rw [so]; rfl, by rw [sw]; rfl, by omega, by omega, sn, hkd, fun t => rfl, HL0.out, hO4, hm3⟩
      case round =>
        clear so sn sw hkd HL0 hO4 hm3
        obtain ⟨k, s, D, last, hk, rfl, rfl, rfl, hop, hsw, hnb, hkd, hD, hlast, hO, hmap⟩ := hrel
        have HD : Hid (∀ t, D.atKey (.int .i64 t) (.lit (.int .i64 0)) = .lit (.int .i64 (last t))) := hD
        have HLT : Hid (∀ t, last t ≤ lkN s t) := hlast
        have HNB : Hid (s.nb = nb) := hnb
        clear hD hlast hnb
        by_cases hlt : k < k1
        · obtain ⟨x, hx⟩ : ∃ x, os1[k]? = some x := ⟨_, List.getElem?_eq_getElem (by rw [HL1.out]; omega)⟩
          obtain ⟨b, o, hp, hlb, hcl⟩ := (h1w.below hO.below).at' (by omega)
          obtain ⟨a0, a1, a2, a3, a4⟩ := hcl k x hx
          have hfx := h1.fill x (List.mem_of_getElem? hx)
          subst hp
          clear hcl hx
          obtain ⟨od, ob, op, nx, f⟩ := x
          dsimp only at a0 a1 a2 a3 a4 hfx
          have hA0 := below_alloc wr (.cells #[.int .i64 od, .int .i64 ob, .int .i64 op, .bool nx, .int .u8 (f : Int)] 39)
          have hB0 := Blk.new' wr 39 #[.int .i64 od, .int .i64 ob, .int .i64 op, .bool nx, .int .u8 (f : Int)]
          have hOl := hO.kept hA0
          obtain ⟨pg, hpg⟩ : ∃ pg, (if nx then lkN s ob else op) = pg := ⟨_, rfl⟩
          go_upto_if 57 with fail
          generalize hVV : wr.alloc (.cells #[.int .i64 od, .int .i64 ob, .int .i64 op, .bool nx, .int .u8 (f : Int)] 39) = VV at *
          clear hVV
          generalize hOO : wr.heap.size = O at *
          go_cut [] from 54 to 133 (fun wc => Blk wc O 39 [.int .i64 od, .int .i64 ob, .int .i64 pg, .bool false, .int .u8 (f : Int)] ∧ Below O wr wc)
          case first =>
            cases nx with
            | false =>
              have hpg' : op = pg := hpg
              subst hpg'
              go_wp2_with fail
              go_meet
              case rel => exact ⟨hB0, hA0⟩
            | true =>
              have hpg' : lkN s ob = pg := hpg
              obtain ⟨PVl, hCl⟩ := hOl.chip
              have hlk := look_any c s bb PVl ob _ hCl
              rw [hpg'] at hlk
              clear hCl hpg hpg'
              generalize lkW s ob = lw at *
              generalize lkB s ob = lb at *
              have v1 := hB0.cell' (i := 1) rfl
              go_wp2_with (go_at_call 20; refine hlk.mono ?_; rintro e X1 ⟨rfl, hx1⟩; have hB1 := (hB0.kept hx1).alloc (.cells #[.int .i64 lw, .int .i64 pg, .bool lb] 54); have z1 := hB1.cell' (i := 1) rfl; have z2 := hB1.cell' (i := 2) rfl; have z3 := hB1.cell' (i := 3) rfl; have f2 := hB1.frozen 2; have f3 := hB1.frozen 3)
              have hB2 := (hB1.set 2 (.int .i64 pg)).set 3 (.bool false)
              have hW2 : Below O wr (((X1.alloc (.cells #[.int .i64 lw, .int .i64 pg, .bool lb] 54)).setCell ⟨O, 2, none⟩ (.int .i64 pg)).setCell ⟨O, 3, none⟩ (.bool false)) := ((hA0.trans ((bt hx1 (below_alloc _ (.cells #[.int .i64 lw, .int .i64 pg, .bool lb] 54))).mono (by have := hB0.lt; omega))).setCell (Nat.le_refl _) _).setCell (Nat.le_refl _) _
              go_meet
              case rel => exact ⟨hB2, hW2⟩
          case rest =>
            obtain ⟨hB2, hW2⟩ := hcut
            clear hB0 hA0 hOl a0 a1 a2 a3 a4
            have hO2 := hO.more (U := fun j => j = O) (by rw [hOO]; exact hW2) (fun j hj => ⟨by omega, by rw [hj]; exact hB2.lt⟩)
            have hmlt := hmap.lt
            have hm2 := ownsMap_same hmap (hW2.block mb (by omega))
            clear hO
            obtain ⟨PV4, hC4, hn4⟩ := hO2.call
            have hd := does_any c s bb PV4 ⟨od, ob, pg, false, f⟩ _ hC4 (by omega) hfx
            unfold callV at hd
            dsimp only at hd
            have hon := chip_on hC4
            obtain ⟨hnb5, _, hop5⟩ := doesSt_facts s ⟨od, ob, pg, false, f⟩
            have hkd5 := doesSt_kinds hkd ⟨od, ob, pg, false, f⟩
            have HDL : Hid ((doesX s ⟨od, ob, pg, false, f⟩).length = 288) := (doesX_isP hC4 ⟨od, ob, pg, false, f⟩).1
            have HCNT : Hid _ := does_counts hC4 hkd ⟨od, ob, pg, false, f⟩ last HLT.out
            have hpgY : pgOf s ⟨od, ob, pg, false, f⟩ = pg := rfl
            have u0 := hB2.cell' (i := 0) rfl
            have u1 := hB2.cell' (i := 1) rfl
            have u2 := hB2.cell' (i := 2) rfl
            have u3 := hB2.cell' (i := 3) rfl
            have u4 := hB2.cell' (i := 4) rfl
            rw [hpgY] at HCNT
            dsimp only at HCNT
            generalize doesX s ⟨od, ob, pg, false, f⟩ = dX at *
            generalize doesE s ⟨od, ob, pg, false, f⟩ = dE at *
            generalize doesSt s ⟨od, ob, pg, false, f⟩ = s5 at *
            go_upto_region 14 with (first
              | (go_at_call 25; refine hon.mono ?_; rintro e wo ⟨rfl, rfl⟩)
              | (go_at_call 18; refine hd.mono ?_; rintro e w5 ⟨rfl, hA5⟩)
              | (refine wpList_store_blk rfl 46 (.tmp 17) _ rfl _ _ (vals dX) rfl rfl (Blk.new w5 46 (vals (fillP 0))) (by rw [vals_length, vals_length, HDL.out, fillP_length]; exact Nat.le_refl _) (sizeP HDL.out) (vals_one _) ?_; intro w6 h6 ht6))
            have hb6 := ht6.below (below_alloc w5 _) (Nat.le_refl _)
            obtain ⟨hO5, hT5⟩ := hn4 w5 _ hA5 hnb5
            have hO6 := hO5.kept hb6
            have hlt5 : ∀ g, (g = mb ∨ g = O) → g < w5.heap.size := by obtain ⟨_, _, _, _, hTT⟩ := hO5; exact hTT
            have hB6 := (blk_of hB2 (hT5 O (.inr rfl))).kept hb6
            have hm6 := ownsMap_same (ownsMap_same hm2 (hT5 mb (.inl rfl))) (hb6.block mb (hlt5 mb (.inl rfl)))
            clear h6 ht6 hA5 hn4 hd u0 u1 u2 u3 u4 HDL hm2 hmap hb6 hT5 hO5 hB2 hC4 hon hlt5 hO2
            obtain ⟨PV6, hC6⟩ := hO6.chip
            have hon6 := chip_on hC6
            clear hC6
            obtain ⟨iv, hiv⟩ : ∃ iv, isB dE s.on s5.on = iv := ⟨_, rfl⟩
            rw [hiv] at HCNT
            generalize hson : s.on = son at *
            generalize hs5on : s5.on = s5on at *
            go_cut [19] from 54 to 133 (fun v wc' => v = .bool iv ∧ wc' = w6)
            case first =>
              have hiv' : Hid (isB dE son s5on = iv) := hiv
              clear hiv HCNT
              by_cases e0 : dE = 0
              · subst e0
                have HV : Hid (iv = true) := by show _ = _; rw [← hiv'.out]; rfl
                go_wp2_with (go_at_call 25; refine hon6.mono ?_; rintro e wo ⟨rfl, rfl⟩)
                go_meet
                case rel => exact ⟨by rw [HV.out], rfl⟩
              · have m0 : (dE == 0) = false := by simpa using e0
                by_cases e25 : dE = 25
                · subst e25
                  have HV : Hid (iv = true) := by show _ = _; rw [← hiv'.out]; rfl
                  clear m0 e0
                  go_wp2_with (go_at_call 25; refine hon6.mono ?_; rintro e wo ⟨rfl, rfl⟩)
                  go_meet
                  case rel => exact ⟨by rw [HV.out], rfl⟩
                · have m25 : (dE == 25) = false := by simpa using e25
                  by_cases e8 : dE = 8
                  · subst e8
                    clear m0 m25 e0 e25
                    cases son with
                    | false =>
                      have HV : Hid (iv = false) := by show _ = _; rw [← hiv'.out]; rfl
                      go_wp2_with (go_at_call 25; refine hon6.mono ?_; rintro e wo ⟨rfl, rfl⟩)
                      go_meet
                      case rel => exact ⟨by rw [HV.out], rfl⟩
                    | true =>
                      cases s5on with
                      | false =>
                        have HV : Hid (iv = true) := by show _ = _; rw [← hiv'.out]; rfl
                        go_wp2_with (go_at_call 25; refine hon6.mono ?_; rintro e wo ⟨rfl, rfl⟩)
                        go_meet
                        case rel => exact ⟨by rw [HV.out], rfl⟩
                      | true =>
                        have HV : Hid (iv = false) := by show _ = _; rw [← hiv'.out]; rfl
                        go_wp2_with (go_at_call 25; refine hon6.mono ?_; rintro e wo ⟨rfl, rfl⟩)
                        go_meet
                        case rel => exact ⟨by rw [HV.out], rfl⟩
                  · have m8 : (dE == 8) = false := by simpa using e8
                    have HV : Hid (iv = false) := by show _ = _; rw [← hiv'.out]; unfold isB; rw [m0, m25, m8]; rfl
                    clear e0 e25 e8
                    go_wp2_with (go_at_call 25; refine hon6.mono ?_; rintro e wo ⟨rfl, rfl⟩)
                    go_meet
                    case rel => exact ⟨by rw [HV.out], rfl⟩
            case rest =>
              obtain ⟨rfl, rfl⟩ := hcut
              clear hon6 hiv
              have y0 := hB6.cell' (i := 0) rfl
              have y1 := hB6.cell' (i := 1) rfl
              have y2 := hB6.cell' (i := 2) rfl
              have hOx : ∀ w', ChipOwn (fun j => j = mb ∨ j = O) c bb s5 W1 w' → ChipOwn (fun j => j = mb) c bb s5 W1 w' := fun w' h => by
                obtain ⟨PV, q1, q2, q3, q4⟩ := h
                exact ⟨PV, q1, fun j hj => ⟨(q2 j hj).1, fun e => (q2 j hj).2 (.inl e)⟩, q3, fun j e => q4 j (.inl e)⟩
              obtain ⟨C1, C2, C3, C4, C5⟩ := HCNT.out
              have HN5 : Hid (s5.nb = nb) := hnb5.trans HNB.out
              by_cases e0 : od = 0
              · subst e0
                clear C3 C4 C5
                cases iv with
                | false =>
                  have HS : Hid (s5 = s) := C2 rfl rfl
                  clear C1 C2
                  go_wp2_with fail
                  go_roundw
                  case rel => exact ⟨k + 1, s5, D, last, by omega, by go_num, by rw [HS.out], by rw [HS.out], by rw [HS.out]; omega, by rw [HS.out]; omega, HN5.out, hkd5, HD.out, by rw [HS.out]; exact HLT.out, hOx _ hO6, hm6.mono (by omega)⟩
                  case measure => simp [intOf]; omega
                | true =>
                  have HS : Hid _ := C1 rfl rfl
                  clear C1 C2
                  have hnl : ¬ pg < last ob := by have := HS.out.2.2.2.2.1; omega
                  have hsops : IntKind.i64.wrap ((s.ops : Int) + 1) = ((s.ops : Int) + 1) := by rw [IntKind.wrap_i64]; omega
                  have hpgw : IntKind.i64.wrap (pg + 1) = pg + 1 := by have := HS.out; rw [IntKind.wrap_i64]; omega
                  go_wp2_with (first | (at_lookup; refine wpList_lookup_own_int _ rfl (.tmp 106) (.tmp 108) 68 rfl 3 3 .i64 (Maps.int_keyed Try.underlying3) Try.underlying68 Try.underlying3 ((zero_of_info (show (Try.prog.info? 3).map (fun i => (i.zero, i.size)) = some (some (.int .i64 0), 1) from by kernel_rfl)).1 _) mb k D rfl hm6 (.int .i64 ob) (.int .i64 ob) rfl (Maps.keyOf_int_mk Try.underlying3 (wf_i64 (by have := HS.out; omega) (by have := HS.out; omega))) ?_; intro cv hat _; rw [HD.out ob] at hat; obtain rfl : last ob = cv := by simpa using hat) | (refine wpList_mapUpdate_own _ rfl (.tmp 111) (.tmp 113) (.tmp 116) 68 rfl 3 3 (Maps.int_keyed Try.underlying3) Try.underlying68 (plainElem Try.prog 3) mb k D rfl hm6 (by unfold maxLen; omega) (.int .i64 ob) (.int .i64 (pg + 1)) (.int .i64 ob) rfl rfl (Maps.keyOf_int_mk Try.underlying3 (wf_i64 (by have := HS.out; omega) (by have := HS.out; omega))) (.lit (.int .i64 (pg + 1))) [] (plainElem_int Try.underlying3 (wf_i64 (by have := HS.out; omega) (by have := HS.out; omega))) ?_; intro w7 hm7 hg7))
                  obtain ⟨mes, mcl, hmb⟩ := ownsMap_block hm6
                  have hO7 := hOx _ (hO6.turned hg7 (.inl rfl) hlm hmb)
                  go_roundw
                  case rel =>
                    refine ⟨k + 1, s5, D.put (.int .i64 ob) (.lit (.int .i64 (pg + 1))), fun t => if t = ob then pg + 1 else last t, by omega, by go_num, by rw [HS.out.1]; go_num, by rw [HS.out.2.1], by have := HS.out.1; omega, by have := HS.out.2.1; omega, HN5.out, hkd5, fun t => ?_, HS.out.2.2.2.2.2, hO7, hm7⟩
                    dsimp only
                    by_cases ht : t = ob
                    · subst ht; rw [if_pos rfl, Maps.atKey_put_same hm6.isMap (keyLit_int _)]
                    · rw [if_neg ht, Maps.atKey_put_other (by intro e; apply ht; injection e), HD.out t]
                  case measure => simp [intOf]; omega
              · have m0 : (od == 0) = false := by simpa using e0
                by_cases e1 : od = 1
                · subst e1
                  clear C1 C2 C5 m0 e0
                  cases iv with
                  | false =>
                    have HS : Hid (s5 = s) := C4 rfl rfl
                    clear C3 C4
                    go_wp2_with fail
                    go_roundw
                    case rel => exact ⟨k + 1, s5, D, last, by omega, by go_num, by rw [HS.out], by rw [HS.out], by rw [HS.out]; omega, by rw [HS.out]; omega, HN5.out, hkd5, HD.out, by rw [HS.out]; exact HLT.out, hOx _ hO6, hm6.mono (by omega)⟩
                    case measure => simp [intOf]; omega
                  | true =>
                    have HS : Hid _ := C3 rfl rfl
                    clear C3 C4
                    by_cases e2 : dE = 0
                    · subst e2
                      go_wp2_with (refine wpList_mapUpdate_own _ rfl (.tmp 130) (.tmp 132) (.const (.int .i64 0)) 68 rfl 3 3 (Maps.int_keyed Try.underlying3) Try.underlying68 (plainElem Try.prog 3) mb k D rfl hm6 (by unfold maxLen; omega) (.int .i64 ob) (.int .i64 0) (.int .i64 ob) rfl rfl (Maps.keyOf_int_mk Try.underlying3 (wf_i64 (by have := HS.out; omega) (by have := HS.out; omega))) (.lit (.int .i64 0)) [] (plainElem_int Try.underlying3 (wf_i64 (by have := HS.out; omega) (by have := HS.out; omega))) ?_; intro w7 hm7 hg7)
                      obtain ⟨mes, mcl, hmb⟩ := ownsMap_block hm6
                      have hO7 := hOx _ (hO6.turned hg7 (.inl rfl) hlm hmb)
                      go_roundw
                      case rel =>
                        refine ⟨k + 1, s5, D.put (.int .i64 ob) (.lit (.int .i64 0)), fun t => if t = ob then 0 else last t, by omega, by go_num, by rw [HS.out.1]; go_num, by rw [HS.out.2.1]; go_num, by have := HS.out.1; omega, by have := HS.out.2.1; omega, HN5.out, hkd5, fun t => ?_, HS.out.2.2.2.1 rfl, hO7, hm7⟩
                        dsimp only
                        by_cases ht : t = ob
                        · subst ht; rw [if_pos rfl, Maps.atKey_put_same hm6.isMap (keyLit_int _)]
                        · rw [if_neg ht, Maps.atKey_put_other (by intro e; apply ht; injection e), HD.out t]
                      case measure => simp [intOf]; omega
                    · have m2 : (dE == 0) = false := by simpa using e2
                      have HE2 : Hid (¬ dE = 0) := e2
                      clear e2
                      go_wp2_with fail
                      go_roundw
                      case rel => exact ⟨k + 1, s5, D, last, by omega, by go_num, by rw [HS.out.1]; go_num, by rw [HS.out.2.1]; go_num, by have := HS.out.1; omega, by have := HS.out.2.1; omega, HN5.out, hkd5, HD.out, HS.out.2.2.2.2 HE2.out, hOx _ hO6, hm6.mono (by omega)⟩
                      case measure => simp [intOf]; omega
                · have m1 : (od == 1) = false := by simpa using e1
                  have HS : Hid _ := C5 e0 e1
                  have HLK : Hid (∀ t, lkN s5 t = lkN s t) := fun t => by unfold lkN blkAt; rw [HS.out.2]
                  clear C1 C2 C3 C4 C5 e0 e1
                  go_wp2_with fail
                  go_roundw
                  case rel => exact ⟨k + 1, s5, D, last, by omega, by go_num, by rw [HS.out.1], by rw [HS.out.2], by rw [HS.out.1]; omega, by rw [HS.out.2]; omega, HN5.out, hkd5, HD.out, fun t => by rw [HLK.out t]; exact HLT.out t, hOx _ hO6, hm6.mono (by omega)⟩
                  case measure => simp [intOf]; omega
        · have hkk : ¬ k < k1 := hlt
          have bg2 := bg.below hO.below hgl
          have g0 := bg2.cell' (i := 0) rfl
          clear HD HLT hmap
          have HBL : Hid (s.bl.length = s.nb) := by obtain ⟨_, hC⟩ := hO.chip; exact hC.bll
          have HLE : Hid (∀ t, 0 ≤ lkW s t ∧ lkW s t ≤ s.ops) := by obtain ⟨_, hC⟩ := hO.chip; exact lkW_le hC
          have hGEO := HGEO.out
          go_wp2_with fail
          go_loopw [20, 136] (fun v i wr' => ∃ j : Nat, j ≤ nb ∧ i = .int .i64 j ∧ v = .int .i64 ((sumW (s.bl.take j) : Nat) : Int) ∧ sumW (s.bl.take j) ≤ j * 200 ∧ ChipOwn (fun j => j = mb) c bb s W1 wr') (fun _ i _ => nb - (intOf i).toNat)
          case atStart => exact ⟨0, Nat.zero_le _, rfl, by simp [sumW], by simp [sumW], hO⟩
          case round =>
            clear hO
            obtain ⟨j, hj, rfl, rfl, hjs, hO⟩ := hrel
            by_cases hlj : j < nb
            · obtain ⟨PVl, hCl⟩ := hO.chip
              have hlk := look_any c s bb PVl (j : Int) wr hCl
              have hsu := sumW_upto s HBL.out j (by rw [HNB.out]; exact hlj)
              have hle := HLE.out (j : Int)
              have hlj' : (j : Int) < (nb : Int) := by omega
              clear hCl
              generalize lkW s (j : Int) = lw at *
              generalize lkN s (j : Int) = ln at *
              generalize lkB s (j : Int) = lb at *
              generalize lkE s (j : Int) = le at *
              obtain ⟨A, hA⟩ : ∃ A, sumW (s.bl.take j) = A := ⟨_, rfl⟩
              obtain ⟨A', hA'⟩ : ∃ A', sumW (s.bl.take (j + 1)) = A' := ⟨_, rfl⟩
              have HA' : Hid (sumW (s.bl.take (j + 1)) = A') := hA'
              rw [hA, hA'] at hsu
              rw [hA] at hjs ⊢
              clear hA hA'
              have HSU : Hid ((A : Int) + lw = (A' : Int)) := hsu
              have hwr : IntKind.i64.wrap ((A : Int) + lw) = (A' : Int) := by rw [hsu, IntKind.wrap_i64]; omega
              have hwr2 : wrap64 ((A : Int) + lw) = (A' : Int) := (IntWalk.i64_left _).symm.trans hwr
              clear hsu
              go_wp2_with (go_at_call 20; refine hlk.mono ?_; rintro e X1 ⟨rfl, hx1⟩)
              have hO7 := (hO.kept hx1).kept (below_alloc X1 (.cells #[.int .i64 lw, .int .i64 ln, .bool lb] 54))
              go_roundw
              case rel => exact ⟨j + 1, by omega, by go_num, by rw [HA'.out], by rw [HA'.out]; have := HSU.out; omega, hO7⟩
              case measure => simp [intOf]; omega
            · obtain rfl : j = nb := by omega
              have HSS : Hid (sumW (s.bl.take j) = sumW s.bl) := by show _ = _; rw [List.take_of_length_le (by rw [HBL.out, HNB.out]; exact Nat.le_refl _)]
              rw [HSS.out]
              obtain ⟨PVl, hCl⟩ := hO.chip
              have hops := chip_ops hCl
              clear hCl
              go_wp2_with (go_at_call 26; refine hops.mono ?_; rintro e wo ⟨rfl, rfl⟩)
              go_ret
              exact ⟨by simp, hb1.trans (hO.below.mono hb1.size)⟩
    | false =>
      refine (new_evbad nb np _ _ _ es _ _ hsr hgeo hoka).mono ?_
      rintro e w2 ⟨rfl, hb2⟩
      go_wp2_with fail
      refine (begun_any _).mono ?_
      rintro e w3 ⟨rfl, hb3⟩
      go_wp2_with fail
      refine (begun_any _).mono ?_
      rintro e w4 ⟨rfl, hb4⟩
      go_wp2
      go_ret
      exact ⟨rfl, bt (bt (bt hb1 hb2) hb3) hb4⟩
  · refine (new_bad gb gp _ _ _ _ hgeo).mono ?_
    rintro e w2 ⟨rfl, hb2⟩
    go_wp2_with fail
    refine (begun_any _).mono ?_
    rintro e w3 ⟨rfl, hb3⟩
    go_wp2_with fail
    refine (begun_any _).mono ?_
    rintro e w4 ⟨rfl, hb4⟩
    go_wp2
    go_ret
    exact ⟨rfl, bt (bt (bt hb1 hb2) hb3) hb4⟩
set_option maxRecDepth 100000 in
theorem counts_lifted (os : Os) (started : os.Started) (H : Type) (enc : TypeId × Value → H) :
    ReturnsInHanded {} Try.checked os 7 .any (Rows.nandCountsSpec.pre6 enc Try.prog Try.f7 Rows.nandCountsRow.domain false) (Rows.nandCountsSpec.post enc Try.prog Try.f7 false true false false) := by
  refine returnsInHanded_of_change_sized (C := Try.checked) own started (by kernel_rfl) Try.func7
    (ChangeSpec.witness6 (enc := enc) (C := Try.checked) false ⟨#[], #[.agg #[.int .i64 0, .int .i64 0], .slice none 0 0, .slice none 0 0], []⟩ 8 (by kernel_rfl) (by kernel_rfl) (by kernel_rfl) (by kernel_rfl)) ?_
  intro W base args ds gs before hval0 hW hcnd hsz0 _
  have hval : ∀ (j : Nat) t v, Try.f7.params[j]? = some t → args[j]? = some v → Value.okWide Try.prog W .any base t v := hval0
  have hsz : (DataW.weightsEach Try.prog (Try.f7.params.toList ++ Rows.nandCountsSpec.plain.varTypes Try.prog) (ds ++ gs)).all (· ≤ reachBytes) = true := hsz0
  have hW' := hW
  obtain ⟨p, q, hA0, hV, rfl, hfz, hnd⟩ := hW
  have hA : DataW.TrodAll enc Try.prog W 0 (fun _ => true) true Try.f7.params.toList args.toList ds p := hA0
  rw [Try.params7] at hA hval hsz
  obtain ⟨v0, vs0, d0, ds0, p0, q0, hargs, rfl, rfl, h0, r0⟩ := trodAll_cons hA
  obtain ⟨v1, vs1, d1, ds1, p1, q1, rfl, rfl, rfl, h1, r1⟩ := trodAll_cons r0
  obtain ⟨v2, vs2, d2, ds2, p2, q2, rfl, rfl, rfl, h2, r2⟩ := trodAll_cons r1
  obtain ⟨rfl, rfl, rfl⟩ := trodAll_nil r2
  obtain rfl : args = #[v0, v1, v2] := by cases args; simp_all
  obtain ⟨rfl, rfl⟩ := trodVars_none hV
  obtain ⟨gb, gp, rfl, _, _⟩ := okGeo (hval 0 23 v0 rfl rfl)
  obtain ⟨a1, len1, cap1, rfl⟩ := okWide_slice Try.underlying25 (hval 1 25 v1 rfl rfl)
  obtain ⟨a2, len2, cap2, rfl⟩ := okWide_slice Try.underlying37 (hval 2 37 v2 rfl rfl)
  have lt0 : ∀ x ∈ p0, x.block < W.heap.size := by obtain ⟨m, hm⟩ := h0; exact DataW.trod_lt m _ _ _ hm
  have lt1 : ∀ x ∈ p1, x.block < W.heap.size := by obtain ⟨m, hm⟩ := h1; exact DataW.trod_lt m _ _ _ hm
  have lt2 : ∀ x ∈ p2, x.block < W.heap.size := by obtain ⟨m, hm⟩ := h2; exact DataW.trod_lt m _ _ _ hm
  obtain ⟨es1, fe1, ho1⟩ := openEvents h1 hsz (j := 1) rfl rfl
  obtain ⟨os2, ho2⟩ := openCalls h2
  clear hA0 hval0 hsz0
  refine (counts_walk gb gp a1 len1 cap1 es1 fe1 a2 len2 cap2 os2 W ho1 ho2).mono fun e W' ⟨he, bel⟩ => ?_
  subst he
  exact ⟨_, rfl, _, _, _, [], _, [], hW', trodAll_mk1 (shut_bool Try.underlying4 _), (trodAll_cons_mk (Below.trod laidOut (by kernel_rfl) (of_decide_eq_true (by kernel_rfl)) h0 bel lt0) (trodAll_cons_mk (Below.trod laidOut (by kernel_rfl) (of_decide_eq_true (by kernel_rfl)) h1 bel lt1) (trodAll_cons_mk (Below.trod laidOut (by kernel_rfl) (of_decide_eq_true (by kernel_rfl)) h2 bel lt2) trodAll_mk0))), rfl, bel.frame _, fun h => by cases h⟩
theorem nandCounts_holds : Rows.NandCountsSaid :=
  OpenClaim.holds_of_wide 7 Try.f7 rfl rfl rfl rfl rfl rfl rfl ⟨rfl, rfl, rfl, rfl, rfl⟩ rfl rfl rfl rfl rfl (by kernel_rfl) Try.func7 (by kernel_rfl)
    (of_decide_eq_true (by kernel_rfl)) (by unfold Func.isWrapper; first | (rw [if_pos (by decide +kernel)]; kernel_rfl) | (rw [if_neg (by decide +kernel)]; exact ⟨rfl, rfl⟩))
    (fun os started H enc _ => counts_lifted os started H enc)
#print axioms nandCounts_holds
end Go.Proofs.Ythafcnilhloldaa
