/-
  The law's walk of NandDoes.
-/
import Derived.Test.YthafcnilhloldaaNTwin
import Derived.Test.YthafcnilhloldaaNRNew
import Derived.Test.YthafcnilhloldaaNCalls
namespace Go.Proofs.Ythafcnilhloldaa
open Go.RowKit Go.Shelf
theorem geoD2 {w : World} {g : Nat} {a b : Value} (h : Blk w g 23 [a, b]) : w.cell? ⟨g, 0, none⟩ = some a ∧ w.cell? ⟨g, 1, none⟩ = some b := ⟨h.cell' (i := 0) rfl, h.cell' (i := 1) rfl⟩
theorem okEvs_kindsR : ∀ (es : List Ev) (n : Int), okEvs n es = true → ∀ e ∈ es, e.kind = 1 ∨ e.kind = 2
  | [], _, _ => fun e he => by simp at he
  | e :: r, n, h => by
    simp only [okEvs, Bool.and_eq_true, Bool.or_eq_true, beq_iff_eq] at h
    intro x hx
    rcases List.mem_cons.1 hx with rfl | hx
    · exact h.1.1.2
    · exact okEvs_kindsR r _ h.2 x hx
theorem doesX_isR {w : World} {c : Nat} {s : St} {bb : Nat} {PV : Nat → Value} (h : ChipIn w c s bb PV) (o : CallS) : IsP (doesX s o) := doesX_isP h o
set_option linter.unusedSimpArgs false in
set_option linter.unusedVariables false in
set_option maxRecDepth 100000 in
set_option maxHeartbeats 8000000 in
theorem does_walk (gb gp : Int) (q : Option Addr) (m d : Nat) (bs : List Int) (p : Option Addr) (n c : Nat) (es : List Ev) (f : Nat → Option Addr × Nat × Nat) (p1 : Option Addr) (n1 c1 : Nat) (os1 : List CallS) (w : World) (hi : InI w q m d bs) (hx : EvSrc w p n c es f) (h1 : CallsSrc w p1 n1 c1 os1) :
    Calls Try.prog 4 #[.agg #[.int .i64 gb, .int .i64 gp], .slice q m d, .slice p n c, .slice p1 n1 c1] w fun e w' => e = .returned (.bool true) ∧ Below w.heap.size w w' := by
  have hz := zeroPage
  obtain ⟨k1, hk1, hk1', hmin1⟩ := min_two n1 200 200 rfl
  have hsl1 := callsPre p1 n1 c1 k1 hk1 h1.cap
  have HL1 : Hid (os1.length = n1) := h1.len
  have hk0 := below_alloc w (.cells #[.int .i64 gb, .int .i64 gp] 23)
  have bx := Blk.new' w 23 #[.int .i64 gb, .int .i64 gp]
  replace hi := hi.below hk0
  replace hx := hx.below hk0
  have h1w := h1.below hk0
  go_enter Try.func4, Try.ntmps4
  by_cases hg : GeoOk gb gp
  · obtain ⟨nb, rfl⟩ : ∃ nb : Nat, gb = (nb : Int) := ⟨gb.toNat, by unfold GeoOk at hg; omega⟩
    obtain ⟨np, rfl⟩ : ∃ np : Nat, gp = (np : Int) := ⟨gp.toNat, by unfold GeoOk at hg; omega⟩
    have hrn := fun w' (h1 : InI w' q m d bs) (h2 : EvSrc w' p n c es f) => rnew_any nb np q m d bs p n c es f w' h1 h2 hg
    cases hmk : markL nb bs (List.replicate nb false) with
    | none =>
      have hnn := nnew_place nb np q m d bs p n c es f _ hi hx hg hmk
      go_wp2_with fail
      refine hnn.mono ?_
      rintro e w1 ⟨hb1, rfl⟩
      have hrr := hrn _ (hi.below hb1) (hx.below hb1)
      replace bx := bx.kept hb1
      obtain ⟨x0, x1⟩ := geoD2 bx
      clear hrn
      go_wp2_with fail
      refine hrr.mono ?_
      rintro e w2 ⟨hb2, ⟨_, rfl⟩ | ⟨mk, h, _⟩ | ⟨mk, g, cr, PR, h, _⟩⟩
      · go_wp2_with fail
        refine (begun_any _).mono ?_
        rintro e w3 ⟨rfl, hb3⟩
        have hB := bt (bt (bt hk0 hb1) hb2) hb3
        clear hk0 hb1 hb2 hb3
        go_wp2
        go_ret
        exact ⟨rfl, hB⟩
      · rw [hmk] at h; cases h
      · rw [hmk] at h; cases h
    | some mk0 =>
      cases hok : okEvs 0 es with
      | false =>
        have hnn := nnew_ev nb np q m d bs p n c es f _ hi hx hg mk0 hmk hok
        go_wp2_with fail
        refine hnn.mono ?_
        rintro e w1 ⟨hb1, rfl⟩
        have hrr := hrn _ (hi.below hb1) (hx.below hb1)
        replace bx := bx.kept hb1
        obtain ⟨x0, x1⟩ := geoD2 bx
        clear hrn
        go_wp2_with fail
        refine hrr.mono ?_
        rintro e w2 ⟨hb2, ⟨h, _⟩ | ⟨mk, _, _, rfl⟩ | ⟨mk, g, cr, PR, _, h, _⟩⟩
        · rw [hmk] at h; cases h
        · go_wp2_with fail
          refine (begun_any _).mono ?_
          rintro e w3 ⟨rfl, hb3⟩
          have hB := bt (bt (bt hk0 hb1) hb2) hb3
          clear hk0 hb1 hb2 hb3
          go_wp2
          go_ret
          exact ⟨rfl, hB⟩
        · rw [hok] at h; cases h
      | true =>
        have hnn := nnew_ok nb np q m d bs p n c es f _ hi hx hg mk0 hmk hok
        have hW1s : (w.alloc (.cells #[.int .i64 (nb : Int), .int .i64 (np : Int)] 23)).heap.size = w.heap.size + 1 := World.size_alloc _ _
        go_wp2_with fail
        generalize w.alloc (.cells #[.int .i64 (nb : Int), .int .i64 (np : Int)] 23) = W1 at *
        refine hnn.mono ?_
        rintro e w1 ⟨hb1, ch, bb, rfl, hch, hbb, hC⟩
        have hrr := hrn _ (hi.below hb1) (hx.below hb1)
        have bx1 := bx.kept hb1
        obtain ⟨x0, x1⟩ := geoD2 bx1
        clear hrn hnn
        go_wp2_with fail
        refine hrr.mono ?_
        rintro e w2 ⟨hb2, ⟨h, _⟩ | ⟨mk, _, h, _⟩ | ⟨mk, g, cr, PR, h, _, rfl, hR, hfr⟩⟩
        · rw [hmk] at h; cases h
        · rw [hok] at h; cases h
        · rw [hmk] at h
          cases h
          have hT2 := Twin.new hb1 hC (by rintro k (e | e | ⟨i, _, e⟩); omega; omega; cases e) hb2 hR hfr
          have hAl : Alike { newStB nb np es mk0 with z := fun k => k < W1.heap.size ∨ w1.heap.size ≤ k } { newStB nb np es mk0 with z := fun k => k < w1.heap.size ∨ w2.heap.size ≤ k } := ⟨⟨rfl, rfl, rfl, rfl, rfl⟩, rfl⟩
          have hkd : KindsR { newStB nb np es mk0 with z := fun k => k < W1.heap.size ∨ w1.heap.size ≤ k } := okEvs_kindsR es 0 hok
          have hs0 : ({ newStB nb np es mk0 with z := fun k => k < W1.heap.size ∨ w1.heap.size ≤ k } : St).ops = 0 ∧ ({ newStB nb np es mk0 with z := fun k => k < W1.heap.size ∨ w1.heap.size ≤ k } : St).nb = nb := ⟨rfl, rfl⟩
          have HGE : Hid (GeoOk nb np) := hg
          clear hR hfr hC hrr hch hbb hok hmk hg
          generalize ({ newStB nb np es mk0 with z := fun k => k < W1.heap.size ∨ w1.heap.size ≤ k } : St) = s0 at *
          generalize ({ newStB nb np es mk0 with z := fun k => k < w1.heap.size ∨ w2.heap.size ≤ k } : St) = t0 at *
          generalize hrr0 : w1.heap.size + 1 = r at *
          generalize (fun x : Nat => Value.slice none 0 0) = PV at *
          obtain ⟨so, sn⟩ := hs0
          go_wp2_with fail
          refine (begun_any _).mono ?_
          rintro e w3 ⟨rfl, hb3⟩
          have hT3 := hT2.below hb3
          clear hT2 hb3 hb2 hb1 bx1 x0 x1
          go_wp2_with fail
          go_loopw [9, 57] (fun v9 i wr => ∃ (k ch bb : Nat) (s t : St) (PV PR : Nat → Value), k ≤ k1 ∧ i = .int .i64 (k : Int) ∧ v9 = .pointer (some ⟨ch, 0, none⟩) ∧ Twin W1 wr ch s bb PV r t g cr PR ∧ Alike s t ∧ KindsR s ∧ s.ops ≤ k ∧ Hid (s.nb = nb)) (fun _ i _ => k1 - (intOf i).toNat)
          case atStart => exact ⟨0, ch, bb, s0, t0, _, _, Nat.zero_le _, rfl, rfl, hT3, hAl, hkd, by omega, sn⟩
          case round =>
            clear hT3 hAl hkd so sn
            obtain ⟨k, ch, bb, s, t, PV, PR, hk, rfl, rfl, hT, hAl, hkd, hop, HNB⟩ := hrel
            by_cases hlt : k < k1
            · obtain ⟨x, hx1⟩ : ∃ x, os1[k]? = some x := ⟨_, List.getElem?_eq_getElem (by rw [HL1.out]; omega)⟩
              obtain ⟨b, oo, hp, hlb, hcl⟩ := (h1w.below hT.bl).at' (by omega)
              obtain ⟨a0, a1, a2, a3, a4⟩ := hcl k x hx1
              have hfx := h1.fill x (List.mem_of_getElem? hx1)
              subst hp
              clear hcl hx1
              obtain ⟨od, ob, op, nx, fl⟩ := x
              dsimp only at a0 a1 a2 a3 a4 hfx
              have hki : (k : Int) < (k1 : Int) := by omega
              have hA0 := below_alloc wr (.cells #[.int .i64 od, .int .i64 ob, .int .i64 op, .bool nx, .int .u8 (fl : Int)] 39)
              have hB0 := Blk.new' wr 39 #[.int .i64 od, .int .i64 ob, .int .i64 op, .bool nx, .int .u8 (fl : Int)]
              have hT0 := hT.below hA0
              have hOfc : ∀ j, fpOf ch bb PV s.nb j → j < wr.heap.size := fun j hj => hT.ch.lt hj
              have hOfr : ∀ j, fpOf r g PR t.nb j → j < wr.heap.size := fun j hj => hT.rf.lt hj
              by_cases hod : od = 4
              · subst hod
                have o1 := hB0.cell' (i := 1) rfl
                have o4 := hB0.cell' (i := 4) rfl
                have hcl := chipClone_any ch s bb PV _ hT0.ch
                go_wp2_with fail
                generalize hVV : wr.alloc (.cells #[.int .i64 4, .int .i64 ob, .int .i64 op, .bool nx, .int .u8 (fl : Int)] 39) = VV at *
                obtain ⟨O, hO⟩ : ∃ O, wr.heap.size = O := ⟨_, rfl⟩
                rw [hO] at hB0 hOfc hOfr ⊢
                refine hcl.mono ?_
                rintro e w2 ⟨c', bb', cr', PV', rfl, hC', hf', hb2⟩
                have hB2 := hB0.kept hb2
                have o1 := hB2.cell' (i := 1) rfl
                have her := erase_any ch s bb PV ob w2 (hT0.ch.below hb2) (by omega)
                clear hcl hVV
                go_wp2_with fail
                refine her.mono ?_
                rintro e w4 ⟨rfl, hA4⟩
                obtain ⟨PV4, hC4, hf4, hk4⟩ := hA4
                have hB4 : Blk w4 O 39 [.int .i64 4, .int .i64 ob, .int .i64 op, .bool nx, .int .u8 (fl : Int)] := hB2.keep hk4 (fun e => by have := hOfc _ e; omega)
                have hez := eraseSt_z s ob
                have heo : (eraseSt s ob).ops ≤ s.ops + 1 := (eraseSt_facts s ob).2.2
                have hOf4 : ∀ j, fpOf ch bb PV4 (eraseSt s ob).nb j → j ≠ O := fun j hj e => by
                  rw [hez.2] at hj
                  rcases hf4 j hj with h | h
                  · have := hOfc j h; omega
                  · have := hB2.lt; omega
                have hpr := fun W (hW : ChipIn W ch (eraseSt s ob) bb PV4) => prog_any ch (eraseSt s ob) bb PV4 ob 0 (fillP fl) W hW (isP_fill fl hfx) (by omega)
                clear her
                go_upto_region 15 with fail
                refine wp_region_noPanic ?_
                refine wp_region_held_drew (S := fun w' => Blk w' O 39 [.int .i64 4, .int .i64 ob, .int .i64 op, .bool nx, .int .u8 (fl : Int)]) (by kernel_rfl) hB4.drew (fun hHeld => ?_)
                refine wpAnyH_take (i := 0) (v := ?_) rfl (by kernel_rfl) (by kernel_rfl) (by kernel_rfl) (fun _ _ _ h => h) (Or.inl ⟨by rfl, ?_⟩) hHeld ?_
                rotate_left
                · intro w' hSw; try dsimp only at hSw
                  go_simp; try (with_reducible rfl)
                try simp only [Act.put, List.getElem_toArray, List.getElem_cons_succ, List.getElem_cons_zero, List.setIfInBounds_toArray, List.set_cons_zero, List.set_cons_succ]
                refine wpAnyH_take (i := 1) (v := ?_) rfl (by kernel_rfl) (by kernel_rfl) (by kernel_rfl) (fun _ _ _ h => h) (Or.inl ⟨by rfl, ?_⟩) hHeld ?_
                rotate_left
                · intro w' hSw; try dsimp only at hSw
                  go_simp; try (with_reducible rfl)
                try simp only [Act.put, List.getElem_toArray, List.getElem_cons_succ, List.getElem_cons_zero, List.setIfInBounds_toArray, List.set_cons_zero, List.set_cons_succ]
                refine wpAnyH_take (i := 2) (v := ?_) rfl (by kernel_rfl) (by kernel_rfl) (by kernel_rfl) (fun _ _ _ h => h) (Or.inl ⟨by rfl, ?_⟩) hHeld ?_
                rotate_left
                · intro w' hSw; try dsimp only at hSw
                  have z := hSw.cell' (i := 1) rfl
                  go_simp; try (with_reducible rfl)
                try simp only [Act.put, List.getElem_toArray, List.getElem_cons_succ, List.getElem_cons_zero, List.setIfInBounds_toArray, List.set_cons_zero, List.set_cons_succ]
                refine wpAnyH_take (i := 3) (v := ?_) rfl (by kernel_rfl) (by kernel_rfl) (by kernel_rfl) (fun _ _ _ h => h) (Or.inl ⟨by rfl, ?_⟩) hHeld ?_
                rotate_left
                · intro w' hSw; try dsimp only at hSw
                  go_simp; try (with_reducible rfl)
                try simp only [Act.put, List.getElem_toArray, List.getElem_cons_succ, List.getElem_cons_zero, List.setIfInBounds_toArray, List.set_cons_zero, List.set_cons_succ]
                refine wpAnyH_take (i := 4) (v := ?_) rfl (by kernel_rfl) (by kernel_rfl) (by kernel_rfl) (fun _ _ _ h => h) (Or.inl ⟨by rfl, ?_⟩) hHeld ?_
                rotate_left
                · intro w' hSw; try dsimp only at hSw
                  have z := hSw.cell' (i := 4) rfl
                  go_simp; try (with_reducible rfl)
                try simp only [Act.put, List.getElem_toArray, List.getElem_cons_succ, List.getElem_cons_zero, List.setIfInBounds_toArray, List.set_cons_zero, List.set_cons_succ]
                refine wpAnyH_ready (rs := [5]) (by kernel_rfl) (by simp) ?_
                refine AllReadyH.cons rfl (fun K hK => ?_) AllReadyH.nil
                go_simp
                refine (page_any fl _).mono ?_
                rintro e Y5 ⟨rfl, y5⟩
                refine hK.out _ _ (hHeld.kept y5) (fun hHeld => ?_)
                clear hK K
                try simp only [Act.put, List.getElem_toArray, List.getElem_cons_succ, List.getElem_cons_zero, List.setIfInBounds_toArray, List.set_cons_zero, List.set_cons_succ]
                refine wpAnyH_ready (rs := [6]) (by kernel_rfl) (by simp) ?_
                refine AllReadyH.cons rfl (fun K hK => ?_) AllReadyH.nil
                go_simp
                have y5b : Below w4.heap.size w4 Y5 := (Below.refl _ _).drew.trans y5
                refine (hpr _ (hC4.below y5b)).mono ?_
                rintro e Y6 ⟨rfl, hA6⟩
                obtain ⟨PV6, _, _, hk6⟩ := hA6
                refine hK.out _ _ (hHeld.keep hk6 (fun e => hOf4 _ e rfl)) (fun hHeld => ?_)
                clear hK K
                try simp only [Act.put, List.getElem_toArray, List.getElem_cons_succ, List.getElem_cons_zero, List.setIfInBounds_toArray, List.set_cons_zero, List.set_cons_succ]
                refine wpAnyH_done (by kernel_rfl) ?_ _
                refine NoPanic.normal ?_
                clear hHeld hpr
                have hk26 : Keep (fun j => fpOf ch bb PV s.nb j ∨ w2.heap.size ≤ j) w2 Y6 := ((hk4.mono (fun _ _ e => .inl e)).trans (Keep.of_below (S := fun _ => False) y5b) (fun _ _ e => e.elim)).trans hk6 (fun j _ e => by rw [hez.2] at e; exact hf4 j e)
                have hTn := hT0.fork hC' hf' hb2 hk26
                go_wp2
                go_roundw
                case rel => exact ⟨k + 1, c', bb', _, t, PV', PR, by omega, by go_num, rfl, hTn, ⟨⟨hAl.nb, hAl.np, hAl.bl, hAl.ops, hAl.on⟩, hAl.ev⟩, hkd, by show s.ops ≤ k + 1; omega, HNB.out⟩
                case measure => simp [intOf]; omega
              · have m4 : (od == 4) = false := by simpa using hod
                clear hod
                have hops1 : s.ops < 4611686018427387904 := by omega
                have htops : t.ops < 4611686018427387904 := by rw [hAl.ops]; omega
                have hktd : KindsR t := fun e he => hkd e (by rw [← hAl.ev]; exact he)
                obtain ⟨eE, eX, hAl5⟩ := hAl.does ⟨od, ob, op, nx, fl⟩
                have hd := does_any ch s bb PV ⟨od, ob, op, nx, fl⟩ _ hT0.ch hops1 hfx
                have hmu := fun W (hW : RsIn W r t g cr PR) => must_any r t g cr PR ⟨od, ob, op, nx, fl⟩ W hW hktd htops hfx
                rw [eE, eX] at hmu
                clear eE eX
                unfold callV at hd hmu
                dsimp only at hd hmu
                have hz5 := doesSt_z s ⟨od, ob, op, nx, fl⟩
                have hz6 := doesSt_z t ⟨od, ob, op, nx, fl⟩
                have hkd5 := kinds_does hkd ⟨od, ob, op, nx, fl⟩
                have hop5 := does_ops s ⟨od, ob, op, nx, fl⟩
                have hPX := doesX_isP hT.ch ⟨od, ob, op, nx, fl⟩
                have HDL : Hid ((doesX s ⟨od, ob, op, nx, fl⟩).length = 288) := hPX.1
                clear hPX
                generalize doesX s ⟨od, ob, op, nx, fl⟩ = dX at *
                generalize doesE s ⟨od, ob, op, nx, fl⟩ = dE at *
                generalize doesSt s ⟨od, ob, op, nx, fl⟩ = s5 at *
                generalize doesSt t ⟨od, ob, op, nx, fl⟩ = t5 at *
                have hqq := fun W => run_equalIn_page W dX dX HDL.out HDL.out
                rw [show (dX == dX) = true from by simp] at hqq
                have o0 := hB0.cell' (i := 0) rfl
                have o1 := hB0.cell' (i := 1) rfl
                have o2 := hB0.cell' (i := 2) rfl
                have o3 := hB0.cell' (i := 3) rfl
                have o4 := hB0.cell' (i := 4) rfl
                go_wp2_with fail
                generalize hVV : wr.alloc (.cells #[.int .i64 od, .int .i64 ob, .int .i64 op, .bool nx, .int .u8 (fl : Int)] 39) = VV at *
                obtain ⟨O, hO⟩ : ∃ O, wr.heap.size = O := ⟨_, rfl⟩
                rw [hO] at hB0 hOfc hOfr ⊢
                refine hd.mono ?_
                rintro e w5 ⟨rfl, hA5⟩
                have hB5 : Blk w5 O 39 [.int .i64 od, .int .i64 ob, .int .i64 op, .bool nx, .int .u8 (fl : Int)] := hB0.after hA5 (fun e => by have := hOfc _ e; omega)
                obtain ⟨PV5, hT5⟩ := hT0.does hA5 hz5.2 hz5.1
                have hvs : VV.heap.size ≤ w5.heap.size := by obtain ⟨_, _, _, hk⟩ := hA5; exact hk.size
                have hOV := hB0.lt
                have hx5 := below_alloc w5 (.cells (vals (fillP 0)).toArray 46)
                clear hd hA5 o0 o1 o2 o3 o4
                go_upto_region 18 with (refine wpList_store_blk rfl 46 (.tmp 16) _ rfl _ _ (vals dX) rfl rfl (Blk.new w5 46 (vals (fillP 0))) (by rw [vals_length, vals_length, HDL.out, fillP_length]; exact Nat.le_refl _) (sizeP HDL.out) (vals_one _) ?_; intro w6 h6 ht6)
                rw [whole_row (by rw [vals_length, vals_length, HDL.out, fillP_length])] at h6
                have hb6 := ht6.below hx5 (Nat.le_refl _)
                have hB6 := hB5.kept hb6
                have hT6 := hT5.below hb6
                have o0 := hB6.cell' (i := 0) rfl
                have o1 := hB6.cell' (i := 1) rfl
                have o2 := hB6.cell' (i := 2) rfl
                have o3 := hB6.cell' (i := 3) rfl
                have o4 := hB6.cell' (i := 4) rfl
                obtain ⟨X, hX⟩ : ∃ X, w5.heap.size = X := ⟨_, rfl⟩
                rw [hX] at h6 hvs ⊢
                clear hx5 ht6 hb6 hB5 hT5 hX
                go_wp2_with fail
                refine (hmu _ hT6.rf).mono ?_
                rintro e w7 ⟨rfl, hA7⟩
                have hB7 : Blk w7 O 39 [.int .i64 od, .int .i64 ob, .int .i64 op, .bool nx, .int .u8 (fl : Int)] := hB6.rafter hA7 (fun e => by have := hOfr _ e; omega)
                have h7 := h6.rafter hA7 (fun e => by have := hOfr _ e; omega)
                obtain ⟨PR7, hT7⟩ := hT6.must hA7 hz6.2 hz6.1
                clear hmu hA7 o0 o1 o2 o3 o4 hB6 h6 hT6
                go_upto_region 19 with (refine wpList_store_blk rfl 46 (.tmp 18) _ rfl _ _ (vals dX) rfl rfl (Blk.new w7 46 (vals (fillP 0))) (by rw [vals_length, vals_length, HDL.out, fillP_length]; exact Nat.le_refl _) (sizeP HDL.out) (vals_one _) ?_; intro w8 h8 ht8)
                rw [whole_row (by rw [vals_length, vals_length, HDL.out, fillP_length])] at h8
                have hb8 := ht8.below (below_alloc w7 _) (Nat.le_refl _)
                have hB8 := hB7.kept hb8
                have hX8 := h7.kept hb8
                have hT8 := hT7.below hb8
                have o1 := hB8.cell' (i := 1) rfl
                have hsm := same_any ch r bb g cr s5 t5 PV5 PR7 ob _ hT8.ch hT8.rf hAl5.toSameSt
                obtain ⟨Y, hY⟩ : ∃ Y, w7.heap.size = Y := ⟨_, rfl⟩
                rw [hY] at h8 ⊢
                clear ht8 hb8 hB7 h7 hT7 hY
                go_wp2_with (first
                  | (guard_target = wpList _ _ _ (Oper.mk _ (Op.load 46 (Operand.tmp 16)) _ _ _ _ :: _) _ _; refine wpList_load_mid rfl 46 (.tmp 16) rfl X 0 rfl (vals dX) _ (hX8.range 0 288 _ (by rw [List.drop_zero, List.take_of_length_le (by rw [vals_length, HDL.out]; exact Nat.le_refl _)])) Try.underlying46 rfl (sizeP HDL.out) ?_)
                  | (guard_target = wpList _ _ _ (Oper.mk _ (Op.load 46 (Operand.tmp 18)) _ _ _ _ :: _) _ _; refine wpList_load_mid rfl 46 (.tmp 18) rfl Y 0 rfl (vals dX) _ (h8.range 0 288 _ (by rw [List.drop_zero, List.take_of_length_le (by rw [vals_length, HDL.out]; exact Nat.le_refl _)])) Try.underlying46 rfl (sizeP HDL.out) ?_)
                  | (go_at_call 13; refine hsm.mono ?_; rintro e w9 ⟨rfl, hb9⟩))
                go_roundw
                case rel => exact ⟨k + 1, ch, bb, s5, t5, PV5, PR7, by omega, by go_num, rfl, hT8.below hb9, hAl5, hkd5, by omega, hz5.2.trans HNB.out⟩
                case measure => simp [intOf]; omega
            · obtain rfl : k = k1 := by omega
              have hkn : ¬ (k : Int) < (k : Int) := by omega
              obtain ⟨x0, x1⟩ := geoD2 (bx.kept hT.bl)
              have hwk : w.heap.size ≤ W1.heap.size := by omega
              have HWK : Hid (Below w.heap.size w W1) := hk0
              have hnb256 : nb ≤ 256 := by have := HGE.out; unfold GeoOk at this; omega
              go_wp2_with fail
              go_loopw [111] (fun i wr' => ∃ j : Nat, j ≤ nb ∧ i = .int .i64 (j : Int) ∧ Twin W1 wr' ch s bb PV r t g cr PR) (fun i _ => nb - (intOf i).toNat)
              case atStart => exact ⟨0, Nat.zero_le _, rfl, hT⟩
              case round =>
                clear hT
                obtain ⟨j, hj, rfl, hT⟩ := hrel
                by_cases hlj : j < nb
                · have hjI : (j : Int) < (nb : Int) := by omega
                  have hsm := same_any ch r bb g cr s t PV PR (j : Int) _ hT.ch hT.rf hAl.toSameSt
                  go_wp2_with (go_at_call 13; refine hsm.mono ?_; rintro e w9 ⟨rfl, hb9⟩)
                  go_roundw
                  case rel => exact ⟨j + 1, by omega, by go_num, hT.below hb9⟩
                  case measure => simp [intOf]; omega
                · obtain rfl : j = nb := by omega
                  have hjn : ¬ (j : Int) < (j : Int) := by omega
                  go_wp2
                  go_ret
                  exact ⟨rfl, HWK.out.trans (hT.bl.mono hwk)⟩
  · go_wp2_with fail
    refine (nnew_geo gb gp q m d p n c _ hg).mono ?_
    rintro e w1 ⟨rfl, hb1⟩
    replace bx := bx.kept hb1
    obtain ⟨x0, x1⟩ := geoD2 bx
    go_wp2_with fail
    refine (rnew_geo gb gp q m d p n c _ hg).mono ?_
    rintro e w2 ⟨rfl, hb2⟩
    go_wp2_with fail
    refine (begun_any _).mono ?_
    rintro e w3 ⟨rfl, hb3⟩
    have hB := bt (bt (bt hk0 hb1) hb2) hb3
    clear hk0 hb1 hb2 hb3
    go_wp2
    go_ret
    exact ⟨rfl, hB⟩
end Go.Proofs.Ythafcnilhloldaa
