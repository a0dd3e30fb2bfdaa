/-
  scan.Table, of sizes that fit.
-/
import Derived.Test.YtfgelncfmopibabSnTSQ
import Derived.Test.YtfgelncfmopibabSnIdxQ
namespace Go.Proofs.Ytfgelncfmopibab
open Go.RowKit
theorem sliceZ_two (b o n c k j : Nat) (hk : k < j) (h : j ≤ n) (hc : n ≤ c) (W : World) :
    (Instr.slice 23 (.slice (some ⟨b, o, none⟩) n c) (some (.int .i64 (k : Int))) (some (.int .i64 (j : Int))) none).run Try.prog W = .ok (.slice (some ⟨b, o + k * 2, none⟩) (j - k) (c - k)) W := by
  obtain ⟨i0, hi, _, hz1, _⟩ := info_parts infoZ
  have h1 : ¬ c = k := by omega
  have h2 : ¬ c - k = 0 := by omega
  simp [Instr.slice, Instr.sliceBounds, Instr.sliceBound, run_underlying Try.underlying23, asIntOf, addr_add, sizeOf, typeInfo, hi, hz1, h1]
  rw [if_pos (by omega), if_pos (by omega)]
theorem new_rows (P L : Nat) (K : Int) (n : Nat) (w : World) (hok : okSz (P : Int) (L : Int) K = true) (hm : (L : Int) * (P : Int) = (n : Int)) :
    Calls Try.prog 18 #[.int .i64 (P : Int), .int .i64 (L : Int), .int .i64 K] w fun e w' => NewR w.heap.size w' P L K n e ∧ Below w.heap.size w w' := by
  obtain ⟨r1, r2, r3⟩ := okSz_iff.1 hok
  have := prod_bd r2 r1
  refine (new_ok (P : Int) L K n w hok hm).mono ?_
  rintro e w' ⟨V, he, ho, h1, h2, h3, hb⟩
  exact ⟨newR_of (by omega) (by omega) he ho h1 h2 h3, hb⟩
theorem size9 (P L : Nat) (K : Int) (n gd cd gh ch : Nat) (pl : Option Addr) (cl : Nat) : (Try.prog.info? 35).map (·.size) = some (cells9 P L K n gd cd gh ch pl cl).length := by show _ = some 9; kernel_rfl
theorem one9 (P L : Nat) (K : Int) (n gd cd gh ch : Nat) (pl : Option Addr) (cl : Nat) : ∀ v ∈ cells9 P L K n gd cd gh ch pl cl, v.oneCell' = true := by simp [cells9, Value.oneCell']
/-- What Table hands out where the sizes fit. -/
def TabOut (w' : World) (P L : Nat) (K : Int) (n : Nat) (t : TT) (e : Ending) : Prop := ∃ gd cd gh ch pl cl q cq, e = .returned (.tuple #[.agg (cells9 P L K n gd cd gh ch pl cl).toArray, .slice q t.l.length cq, .int .i64 0]) ∧
  InI w' (some ⟨gd, 0, none⟩) L cd t.d ∧ InB w' (some ⟨gh, 0, none⟩) n ch t.h ∧ InI w' q t.l.length cq t.l ∧ LogsIn w' pl 0 cl []
theorem logsNil {w w' : World} {pl : Option Addr} {cl : Nat} (h : LogsIn w pl 0 cl []) : LogsIn w' pl 0 cl [] := ⟨h.len, h.cap, h.max, h.room, fun h0 => by omega, h.nil⟩
theorem tabOut_of {w w3 wr wr' w0 : World} {P L : Nat} {K : Int} {n gd cd gh ch gT : Nat} {pl : Option Addr} {cl : Nat} {t : TT} {q : Option Addr} {lq cq : Nat} (h : TS w w3 wr P L K n gd cd gh ch gT pl cl t q lq cq) (o : Lie w w3 gd gh gT) (ht : Turned wr wr' w.heap.size) (hl : LogsIn w0 pl 0 cl []) (hL : L ≤ 100000000) (hn : n ≤ 100000000) (hlq : lq ≤ 100000000) {e : Ending}
    (he : e = .returned (.tuple #[.agg (cells9 P L K n gd cd gh ch pl cl).toArray, .slice q lq cq, .int .i64 0])) : TabOut wr' P L K n t e ∧ Below w.heap.size w wr' := by
  have o1 := o.d; have o2 := o.h; have o3 := o.dT; have o4 := o.hT; have o5 := o.T3
  have hlen := h.len
  have hl2 := h.l
  subst hlen
  have hd := owns_tn2 h.d ht (by omega)
  have hh := owns_tn2 h.h ht (by omega)
  have hll := owns_turnedB hl2 ht (by omega)
  obtain ⟨p1, c1, e1, i1⟩ := in_of_ownsI hd (by omega)
  obtain ⟨p2, c2, e2, i2⟩ := in_of_ownsB hh (by omega)
  obtain ⟨p3, c3, e3, i3⟩ := in_of_ownsI hll (by omega)
  cases e1
  cases e2
  cases e3
  exact ⟨⟨gd, _, gh, _, pl, cl, _, _, he, i1, i2, i3, logsNil hl⟩, ht.below h.bel (Nat.le_refl _)⟩
set_option linter.unusedSimpArgs false in
set_option maxRecDepth 100000 in
set_option maxHeartbeats 8000000 in
theorem table_ok (P L : Nat) (K : Int) (n : Nat) (p : Option Addr) (c : Nat) (zs : List Pl) (w : World) (hz : InZ w p n c zs) (hok : okSz (P : Int) (L : Int) K = true) (HM : Hid (n = L * P)) :
    Calls Try.prog 9 #[.int .i64 (P : Int), .int .i64 (L : Int), .int .i64 K, .slice p n c] w fun e w' => TabOut w' P L K n (tabTo zs P L n L) e ∧ Below w.heap.size w w' := by
  have hLP : (L : Int) * (P : Int) = (n : Int) := by rw [HM.out]; exact (Int.natCast_mul L P).symm
  have hnew := fun w => new_rows P L K n w hok hLP
  obtain ⟨⟨r1, r2⟩, ⟨r3, r4⟩, _⟩ := okSz_iff.1 hok
  have hnb := prod_bd ⟨r3, r4⟩ ⟨r1, r2⟩
  have hn1 : n ≤ 8192 := by omega
  have hn4 : 4 ≤ n := by omega
  have hnI : (n : Int) ≤ 8192 := by omega
  have hcap := hz.cap
  obtain ⟨bz, oz, rfl, hbz, -⟩ := hz.at' (by omega)
  have hsetE := fun (b : Nat) (hb : b < L) => set_eq (zs := zs) (P := P) (B := b) (a := b * P) (m := L) (n := n) hz.len HM.out rfl (by omega) hb
  clear hok hnb
  have r0 := Blk.new' w 35 #[.int .i64 0, .int .i64 0, .int .i64 0, .slice none 0 0, .slice none 0 0, .int .i64 0, .int .i64 0, .int .i64 0, .slice none 0 0]
  have k0 := below_alloc w (.cells #[.int .i64 0, .int .i64 0, .int .i64 0, .slice none 0 0, .slice none 0 0, .int .i64 0, .int .i64 0, .int .i64 0, .slice none 0 0] 35)
  have hs0 : (w.alloc (.cells #[.int .i64 0, .int .i64 0, .int .i64 0, .slice none 0 0, .slice none 0 0, .int .i64 0, .int .i64 0, .int .i64 0, .slice none 0 0] 35)).heap.size = w.heap.size + 1 := World.size_alloc _ _
  go_enter Try.func9, Try.ntmps9
  go_upto_region 1 with (fail)
  generalize w.alloc (.cells #[.int .i64 0, .int .i64 0, .int .i64 0, .slice none 0 0, .slice none 0 0, .int .i64 0, .int .i64 0, .int .i64 0, .slice none 0 0] 35) = W0 at *
  go_upto_region 2 with (first | (go_at_call 18; refine (hnew _).mono ?_; rintro e w1 ⟨⟨gd, cd, gh, ch, pl, cl, rfl, hd1, hh1, hl1⟩, hb1⟩) | (refine wpList_store_blk rfl 35 (.tmp 11) (.tmp 25) rfl w1.heap.size 0 (cells9 P L K n gd cd gh ch pl cl) rfl rfl (Blk.new' w1 35 #[.int .i64 0, .int .i64 0, .int .i64 0, .slice none 0 0, .slice none 0 0, .int .i64 0, .int .i64 0, .int .i64 0, .slice none 0 0]) (by exact Nat.le_refl _) (size9 _ _ _ _ _ _ _ _ _ _) (one9 _ _ _ _ _ _ _ _ _ _) ?_; intro W4 h4 ht4; rw [whole_row (by rfl)] at h4))
  have k4 : Below w1.heap.size w1 W4 := ht4.below (below_alloc w1 _) (Nat.le_refl _)
  have s4 : w1.heap.size < W4.heap.size := by rw [ht4.size, World.size_alloc]; omega
  rw [hs0] at hd1 hh1
  have hgd := (hd1.lt gd rfl)
  have hgh := (hh1.lt gh rfl)
  have hne : gd ≠ gh := by
    intro e
    subst e
    obtain ⟨c1, e1⟩ := owns_has hd1
    obtain ⟨c2, e2⟩ := owns_has hh1
    rw [e1] at e2
    cases e2
  have d4 := owns_below hd1 k4
  have h4' := owns_below hh1 k4
  have r4' := (r0.kept hb1).kept k4
  have kw4 := bt (bt k0 hb1) k4
  have hz4 := hz.below kw4
  have hhom := homes_any P L bz oz n c zs W4 hz4 (by omega) HM (by omega) (by omega) (by omega)
  have hgl : (homesL zs P (guestsL zs P (List.range L)) (List.range L)).length = L := by simp [homesL]
  have hge : ∀ b, b < L → eI (homesL zs P (guestsL zs P (List.range L)) (List.range L)) b = oneH (guestsL zs P (List.range L)) (homeP (chunkL zs P b)) := fun b hb => by simp [eI, homesL, hb]
  replace hsetE : ∀ b, b < L → Hid (setR zs P b (b * P) n = if eI (homesL zs P (guestsL zs P (List.range L)) (List.range L)) b = -1 then (0, false) else (eI (homesL zs P (guestsL zs P (List.range L)) (List.range L)) b, true)) := fun b hb => by rw [hge b hb]; exact hsetE b hb
  generalize homesL zs P (guestsL zs P (List.range L)) (List.range L) = Hs at *
  obtain ⟨gT, HgT⟩ : ∃ g, g = w1.heap.size := ⟨_, rfl⟩
  rw [← HgT] at h4 s4 hgd hgh ⊢
  clear HgT hge ht4 r0 k0 hb1 hd1 hh1 hz4 hnew hs0
  have hLI : (L : Int) ≤ 256 := r4
  go_wp2_with (go_at_call 22; refine hhom.mono ?_; rintro e w3 ⟨qH, cH, rfl, hoH, hb3⟩; obtain ⟨gH, rfl⟩ := own_some hoH (by omega))
  have s3 := hb3.size
  have hgH := hoH.lt gH rfl
  have hLie : Lie w w3 gd gh gT := ⟨hgd.1, hgh.1, by omega, by omega, by omega, hne⟩
  have hT0 := TS.start zs (r4'.kept hb3) (h4.kept hb3) (owns_below d4 hb3) (owns_below h4' hb3) (bt kw4 hb3)
  clear r4' h4 d4 h4' kw4 k4 hhom
  go_loopw [13, 42] (fun v i wr => ∃ (b : Nat) (q : Option Addr) (lq cq : Nat), b ≤ L ∧ i = .int .i64 b ∧ v = .slice q lq cq ∧ TS w w3 wr P L K n gd cd gh ch gT pl cl (tabTo zs P L n b) q lq cq) (fun _ i _ => L - (intOf i).toNat)
  case atStart => exact ⟨0, none, 0, 0, Nat.zero_le _, rfl, rfl, hT0⟩
  case round =>
    obtain ⟨b, q, lq, cq, hb, rfl, rfl, hT⟩ := hrel
    clear hT0
    have hll := tabTo_l zs P L n b
    have hdl := tabTo_d zs P L n b
    have hhl := tabTo_h zs P L n b
    have hlen := hT.len
    by_cases hlt : b < L
    · have hbI : (b : Int) < (L : Int) := by omega
      obtain ⟨a, HA⟩ : ∃ a, Hid (a = b * P) := ⟨_, rfl⟩
      obtain ⟨x, hx⟩ : ∃ x, x = a + P := ⟨_, rfl⟩
      have hab : (b : Int) * (P : Int) = (a : Int) := by rw [HA.out]; exact (Int.natCast_mul b P).symm
      have hxn : x ≤ n := by rw [hx, HA.out, HM.out, ← Nat.succ_mul]; exact Nat.mul_le_mul_right P hlt
      have hax : (a : Int) + (P : Int) = (x : Int) := by omega
      have haI : (a : Int) ≤ 8192 := by omega
      have hxI : (x : Int) ≤ 8192 := by omega
      have hsl := sliceZ_two bz oz n c a x (by omega) hxn hcap
      rw [show x - a = P by omega] at hsl
      have haP : a + P ≤ n := by omega
      clear hx
      have hHk := hT.keep gH (by omega) (by omega)
      have hcH : wr.cell? ⟨gH, b, none⟩ = some (.int .i64 (eI Hs b)) := by rw [World.cell?_of_block (a := ⟨gH, b, none⟩) hHk, hoH.cellAt b (by omega), valsI_get Hs b (by omega)]
      have HE := hsetE b hlt
      have HT : Hid (tabTo zs P L n (b + 1) = tabStep zs P n b (tabTo zs P L n b)) := rfl
      generalize tabTo zs P L n b = T at *
      generalize eI Hs b = h at *
      have hpart := fun (W : World) (hW : Below w.heap.size w W) => (hz.below hW).part (a := a) (P := P) haP (by omega) (by omega)
      by_cases hh1 : h = -1
      · subst hh1
        have HE' : Hid (setR zs P b (b * P) n = (0, false)) := HE.out.trans (if_pos rfl)
        have hcf := containsFunc_any _ _ _ _ wr (hpart wr hT.bel) (by omega)
        rw [someTo_part (Nat.le_refl P)] at hcf
        clear HE hpart hsetE
        cases hs : someTo zs a P with
        | false =>
          rw [hs] at hcf
          have HT' : Hid (tabTo zs P L n (b + 1) = T) := HT.out.trans (step_no HE'.out (by rw [← HA.out]; exact hs))
          clear HT HE' hs
          go_wp2_with (go_at_call 24; refine hcf.mono ?_; rintro e w5 ⟨rfl, hb5⟩)
          go_roundw
          case rel => exact ⟨b + 1, q, lq, cq, by omega, by go_num, rfl, by rw [HT'.out]; exact hT.next hb5⟩
          case measure => simp [intOf]; omega
        | true =>
          rw [hs] at hcf
          have HT' : Hid (tabTo zs P L n (b + 1) = ⟨T.d, T.h, T.l ++ [(b : Int)]⟩) := HT.out.trans (step_loose HE'.out (by rw [← HA.out]; exact hs))
          clear HT HE' hs
          obtain ⟨i0, hi, hz0, hz1, hz2⟩ := info_parts infoI
          go_wp2_with (first | (go_at_call 24; refine hcf.mono ?_; rintro e w5 ⟨rfl, hb5⟩; have HW : Hid (w5.ownsRow w3.heap.size 3 1 (.slice q lq cq) lq (valsI T.l)) := owns_below hT.l hb5; have hs5 : w3.heap.size ≤ w5.heap.size := Nat.le_trans hT.size hb5.size) | (at_builtin; refine wpList_append_own _ rfl (.tmp 83) (.tmp 85) 29 rfl w3.heap.size 3 i0 (.int .i64 0) 1 8 Try.underlying29 hi hz0 hz1 hz2 rfl (by decide) (.slice q lq cq) lq (valsI T.l) rfl (HW.out.alloc _) ⟨w5.heap.size, 0, none⟩ 1 1 [.int .i64 (b : Int)] rfl rfl (new_one w5 _) (by simp [Value.oneCell']) (by unfold maxLen; omega) (by omega) (by rw [World.size_alloc]; omega) ?_; intro v1 w6 hown1 hgrow1 _; obtain ⟨q', cq', hv⟩ := owns_slice hown1; subst hv))
          go_roundw
          case rel => exact ⟨b + 1, q', lq + 1, cq', by omega, by go_num, rfl, by rw [HT'.out]; exact hT.app hLie (b : Int) (bt hb5 (below_alloc w5 _)) hown1 hgrow1⟩
          case measure => simp [intOf]; omega
      · have hne' : (h == -1) = false := by rw [beq_eq_false_iff_ne]; exact hh1
        have HT' : Hid (tabTo zs P L n (b + 1) = ⟨T.d.set b h, havTo T.h zs a P, T.l⟩) := by
          have := HT.out.trans (step_yes (HE.out.trans (if_neg hh1)))
          rw [← HA.out] at this
          exact this
        clear HE hh1 HT hsetE
        have x3 := hT.tab.cell' (i := 3) rfl
        have hcd := hT.d.cellAt b (by omega)
        rw [valsI_get T.d b (by omega)] at hcd
        have hfd := hT.d.frozenAt b
        have hT5 := hT.setD hLie b h
        go_wp2
        generalize wr.setCell ⟨gd, b, none⟩ (.int .i64 h) = W5 at *
        clear x3 hcd hfd hT hcH hHk
        go_loopw [66] (fun i wr => ∃ k : Nat, k ≤ P ∧ i = .int .i64 k ∧ TS w w3 wr P L K n gd cd gh ch gT pl cl ⟨T.d.set b h, havTo T.h zs a k, T.l⟩ q lq cq) (fun i _ => P - (intOf i).toNat)
        case atStart => exact ⟨0, Nat.zero_le _, rfl, hT5⟩
        case round =>
          obtain ⟨k, hk, rfl, hK⟩ := hrel
          clear hT5
          by_cases hkl : k < P
          · have hkI : (k : Int) < (P : Int) := by omega
            obtain ⟨bz', oz', e', hbz', hc⟩ := (hpart wr hK.bel).at' (by omega)
            cases e'
            obtain ⟨e0, e1⟩ := hc k hkl
            have eqz : eZ ((zs.drop a).take P) k = eZ zs (a + k) := by simp [eZ, List.getElem?_take_of_lt hkl, List.getElem?_drop]
            rw [eqz] at e0 e1
            obtain ⟨j, hj⟩ : ∃ j, j = a + k := ⟨_, rfl⟩
            have hjI : (a : Int) + (k : Int) = (j : Int) := by omega
            have hjn : (j : Int) < (n : Int) := by omega
            have hjb : (j : Int) ≤ 8192 := by omega
            have HV : Hid (havTo T.h zs a (k + 1) = (havTo T.h zs a k).set j (isPl (eZ zs j))) := by rw [hj]; rfl
            rw [← hj] at e0 e1
            clear hj
            have hvl := havTo_length T.h zs a k
            generalize havTo T.h zs a k = V at *
            generalize eZ zs j = z at *
            obtain ⟨zh, zg⟩ := z
            dsimp only at e0 e1 HV
            have ba := below_alloc wr (.cells #[.int .i64 zh, .int .i64 zg] 41)
            have bb := Blk.new' wr 41 #[.int .i64 zh, .int .i64 zg]
            have hK2 := hK.next ba
            have hs9 := hK.size
            clear hc eqz hpart hK
            go_upto_region 17 with (fail)
            obtain ⟨g5, Hg5⟩ : ∃ g, g = wr.heap.size := ⟨_, rfl⟩
            rw [← Hg5] at bb ⊢
            have hg5 : gT < g5 := by rw [Hg5]; have := hLie.T3; omega
            clear ba Hg5
            generalize wr.alloc (.cells #[.int .i64 zh, .int .i64 zg] 41) = W6 at *
            refine wp_region_noPanic ?_
            refine wp_region_held_drew (S := fun X => Blk X g5 41 [.int .i64 zh, .int .i64 zg] ∧ Blk X gT 35 (cells9 P L K n gd cd gh ch pl cl)) (by kernel_rfl) ⟨bb.drew, hK2.tab.drew⟩ (fun hHeld => ?_)
            replace hK2 := hK2.drew
            generalize W6.drew = W6 at *
            have hjw : IntKind.i64.wrap (j : Int) = (j : Int) := wrapN j (by omega)
            refine wpAnyH_take (i := 0) (v := ?_) rfl (by kernel_rfl) (by kernel_rfl) (by kernel_rfl) (fun _ _ _ h => h) (Or.inl ⟨by rfl, ?_⟩) hHeld ?_
            rotate_left
            · intro w' hSw; try dsimp only at hSw
              go_simp; try (with_reducible rfl)
            try simp only [Act.put, List.getElem_toArray, List.getElem_cons_succ, List.getElem_cons_zero, List.setIfInBounds_toArray, List.set_cons_zero, List.set_cons_succ]
            refine wpAnyH_take (i := 1) (v := ?_) rfl (by kernel_rfl) (by kernel_rfl) (by kernel_rfl) (fun _ _ _ h => h) (Or.inl ⟨by rfl, ?_⟩) hHeld ?_
            rotate_left
            · intro w' hSw; try dsimp only at hSw
              obtain ⟨_, y⟩ := hSw
              have y4 := y.cell' (i := 4) rfl
              go_simp; try (with_reducible rfl)
            try simp only [Act.put, List.getElem_toArray, List.getElem_cons_succ, List.getElem_cons_zero, List.setIfInBounds_toArray, List.set_cons_zero, List.set_cons_succ]
            refine wpAnyH_take (i := 2) (v := ?_) rfl (by kernel_rfl) (by kernel_rfl) (by kernel_rfl) (fun _ _ _ h => h) (Or.inl ⟨by rfl, ?_⟩) hHeld ?_
            rotate_left
            · intro w' hSw; try dsimp only at hSw
              go_simp; try (with_reducible rfl)
            try simp only [Act.put, List.getElem_toArray, List.getElem_cons_succ, List.getElem_cons_zero, List.setIfInBounds_toArray, List.set_cons_zero, List.set_cons_succ]
            refine wpAnyH_take (i := 3) (v := ?_) rfl (by kernel_rfl) (by kernel_rfl) (by kernel_rfl) (fun _ _ _ h => h) (Or.inl ⟨by rfl, ?_⟩) hHeld ?_
            rotate_left
            · intro w' hSw; try dsimp only at hSw
              go_simp; try (with_reducible rfl)
            try simp only [Act.put, List.getElem_toArray, List.getElem_cons_succ, List.getElem_cons_zero, List.setIfInBounds_toArray, List.set_cons_zero, List.set_cons_succ]
            refine wpAnyH_take (i := 4) (v := ?_) rfl (by kernel_rfl) (by kernel_rfl) (by kernel_rfl) (fun _ _ _ h => h) (Or.inl ⟨by rfl, ?_⟩) hHeld ?_
            rotate_left
            · intro w' hSw; try dsimp only at hSw
              go_simp; try (with_reducible rfl)
            try simp only [Act.put, List.getElem_toArray, List.getElem_cons_succ, List.getElem_cons_zero, List.setIfInBounds_toArray, List.set_cons_zero, List.set_cons_succ]
            refine wpAnyH_take (i := 5) (v := ?_) rfl (by kernel_rfl) (by kernel_rfl) (by kernel_rfl) (fun _ _ _ h => h) (Or.inl ⟨by rfl, ?_⟩) hHeld ?_
            rotate_left
            · intro w' hSw; try dsimp only at hSw
              obtain ⟨y, _⟩ := hSw
              have y0 := y.cell' (i := 0) rfl; have y1 := y.cell' (i := 1) rfl
              go_simp; try (with_reducible rfl)
            try simp only [Act.put, List.getElem_toArray, List.getElem_cons_succ, List.getElem_cons_zero, List.setIfInBounds_toArray, List.set_cons_zero, List.set_cons_succ]
            refine wpAnyH_ready (rs := [6]) (by kernel_rfl) (by simp) ?_
            refine AllReadyH.cons rfl (fun K hK => ?_) AllReadyH.nil
            go_simp
            refine (isPlace_any _ _ _).mono ?_
            rintro e W7 ⟨rfl, hb7⟩
            try go_wp2_with fail
            refine hK.out _ _ ⟨hHeld.1.kept hb7, hHeld.2.kept hb7⟩ (fun hHeld => ?_)
            clear hK K
            try simp only [Act.put, List.getElem_toArray, List.getElem_cons_succ, List.getElem_cons_zero, List.setIfInBounds_toArray, List.set_cons_zero, List.set_cons_succ]
            replace hK2 := hK2.next hb7
            refine wpAnyH_take (i := 7) (v := ?_) rfl (by kernel_rfl) (by kernel_rfl) (by kernel_rfl) (fun _ _ _ h => h) (Or.inl ⟨by rfl, ?_⟩) hHeld ?_
            rotate_left
            · intro w' hSw; try dsimp only at hSw
              go_simp; try (with_reducible rfl)
            try simp only [Act.put, List.getElem_toArray, List.getElem_cons_succ, List.getElem_cons_zero, List.setIfInBounds_toArray, List.set_cons_zero, List.set_cons_succ]
            refine wpAnyH_ready (rs := [8]) (by kernel_rfl) (by simp) ?_
            refine AllReadyH.cons rfl (fun K hK => ?_) AllReadyH.nil
            rw [if_pos (by rfl)]
            refine wp_store_row 4 (.tmp 78) (.tmp 77) rfl gh j (.bool (isPl ⟨zh, zg⟩)) rfl rfl hK2.h (by omega) (by kernel_rfl) rfl ?_
            intro W8 hh8 ht8
            refine hK.out _ _ ⟨hHeld.1.turned ht8 (by have := hLie.hT; omega), hHeld.2.turned ht8 (by have := hLie.hT; omega)⟩ (fun hHeld => ?_)
            clear hK K
            try simp only [Act.put, List.getElem_toArray, List.getElem_cons_succ, List.getElem_cons_zero, List.setIfInBounds_toArray, List.set_cons_zero, List.set_cons_succ]
            have hK8 := hK2.turnH hLie j _ ht8 hh8
            refine wpAnyH_done (by kernel_rfl) ?_ _
            refine NoPanic.normal ?_
            go_wp2_with fail
            go_roundw
            case rel => exact ⟨_, _, .int .i64 ((k + 1 : Nat) : Int), ⟨k + 1, by omega, rfl, by rw [HV.out]; exact hK8⟩, rfl, rfl, by go_num⟩
            case measure => simp [intOf]; omega
          · obtain rfl : P = k := by omega
            go_wp2
            go_roundw
            case rel => exact ⟨b + 1, q, lq, cq, by omega, by go_num, rfl, by rw [HT'.out]; exact hK⟩
            case measure => simp [intOf]; omega
    · obtain rfl : L = b := by omega
      have hlq : lq ≤ 256 := by omega
      have z0 := hT.tab.cell' (i := 0) rfl; have z1 := hT.tab.cell' (i := 1) rfl; have z2 := hT.tab.cell' (i := 2) rfl; have z3 := hT.tab.cell' (i := 3) rfl; have z4 := hT.tab.cell' (i := 4) rfl; have z5 := hT.tab.cell' (i := 5) rfl; have z6 := hT.tab.cell' (i := 6) rfl; have z7 := hT.tab.cell' (i := 7) rfl; have z8 := hT.tab.cell' (i := 8) rfl
      go_wp2_with (guard_target = wpList _ _ _ (Oper.mk _ (Op.store 35 (Operand.tmp 8) _) _ _ _ _ :: _) _ _; refine wpList_store_blk rfl 35 (.tmp 8) (.tmp 88) rfl w.heap.size 0 (cells9 P L K n gd cd gh ch pl cl) rfl rfl hT.res (by exact Nat.le_refl _) (size9 _ _ _ _ _ _ _ _ _ _) (one9 _ _ _ _ _ _ _ _ _ _) ?_; intro W9 h9 ht9; rw [whole_row (by rfl)] at h9)
      exact ret_tab3 (V := ⟨some ⟨gd, 0, none⟩, L, cd, some ⟨gh, 0, none⟩, n, ch, pl, 0, cl⟩) (T := newT (P : Int) L K n) Try.results9 rfl h9 rfl rfl rfl (tabOut_of hT hLie ht9 hl1 (by omega) (by omega) (by omega) rfl)
end Go.Proofs.Ytfgelncfmopibab
