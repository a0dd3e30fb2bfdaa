/-
  The reference's Erase.
-/
import Derived.Test.YthafcnilhloldaaNRBlank
namespace Go.Proofs.Ythafcnilhloldaa
open Go.RowKit Go.Shelf
set_option linter.unusedSimpArgs false in
set_option linter.unusedVariables false in
set_option maxRecDepth 100000 in
set_option maxHeartbeats 8000000 in
theorem rerase_any (r : Nat) (s : St) (g cr : Nat) (PR : Nat → Value) (b : Int) (w : World) (h : RsIn w r s g cr PR) (ho : s.ops < 4611686018427387904) (hK : ∀ e ∈ s.ev, e.kind = 1 ∨ e.kind = 2) :
    Calls Try.prog 45 #[.pointer (some ⟨r, 0, none⟩), .int .i64 b] w fun e w' => e = .returned (.int .i64 (eraseE s b)) ∧ RAft w w' r s (eraseSt s b) g cr PR := by
  have hz := zeroPage
  have hcan := can_any r s g cr PR b 0 w h
  by_cases hc : canE s b 0 = 0
  · obtain ⟨bk, pk, K, rfl, hpk0, hbk, _, hon, hk, hbad⟩ := can_ok h hc
    clear hpk0
    have hnpl := h.npl
    obtain ⟨e1, e2⟩ := erase_can hbk (by omega) hon hk hbad
    rw [hc] at hcan
    rw [e1, e2]
    clear e1 e2 hc
    obtain ⟨epw, elw, ecw, hcw, hew⟩ := h.chip
    obtain ⟨BC0, hB0, hl0, hcell0⟩ := h.blks
    have hler := h.ler
    have hEv := hew.mono (T := fun k => fpN r g PR s.nb w.heap.size k ∨ s.z k) (fun k hk e => e.elim (fun e => e.elim .inl (fun e => by omega)) .inr)
    have hbeg := begins_any r s.nb s.np _ epw elw ecw s.ops s.on s.ev (fun k => fpN r g PR s.nb w.heap.size k ∨ s.z k) _ hcw hEv (.inl (.inl (.inl rfl))) ho
    obtain ⟨p0, p1, p2, p3⟩ := hcell0 bk _ hk
    have c2 := hcw.cell' (i := 2) rfl
    have hbI : (bk : Int) < (s.nb : Int) := by omega
    have HK := next_kind hK (s.ops + 1)
    have hok := on_kind (s.ops + 1) s.on hon hK
    have hpgw := h.pg bk K hk
    have hlen := allP_length s.np K
    obtain ⟨gp, cap, cur, hv, hbP, hcap, hmx, hsz, htk⟩ := hpgw.at' (by intro e; rw [e] at hlen; simp at hlen; omega)
    have hiP := hpgw.each
    rw [hlen] at hv hcap htk
    have hgp : (PR bk).ownBlock = some gp := by rw [hv]; rfl
    have hgpl : gp < w.heap.size := hpgw.lt hgp
    have hgn := h.nec bk hbk gp hgp
    have hrl : r < w.heap.size := hcw.lt
    have hgl : g < w.heap.size := hB0.lt
    have hnb4 : bk * 4 + 3 < BC0.length := by rw [hl0]; omega
    have p0v := p0
    rw [hv] at p0v
    have hlim := h.lim K (List.mem_of_getElem? hk)
    have hwear : K.wear < 4611686018427387905 := by omega
    have hR1 := RowAt.first hnb4 p0 p2 p3
    have HRS : Hid (RsIn w r s g cr PR) := h
    have hne := h.ne
    have hze := zeroEv
    unfold evVal at hbeg
    clear hew hEv hcw hmx h
    generalize nextEv s.ev (s.ops + 1) = E at *
    have hend := fun W q m d es hW => ends_any r s.nb s.np (.slice (some ⟨g, 0, none⟩) s.nb cr) es (s.ops + 1) s.on E q m d W hW HK
    unfold evVal at hend
    by_cases hk0 : E.kind = 0
    · have hkn : (E.kind != 0) = false := by simpa using hk0
      have HK0 : Hid (E.kind = 0) := hk0
      have HBD : Hid (K.bad = false) := hbad
      clear hbad
      have HB := erased_no (np := s.np) (k := K) hk0
      rw [HB, show outE E.kind = 0 from by rw [hk0]; rfl]
      clear HB hk0
      go_enter Try.func45, Try.ntmps45
      go_upto_region 12 with (first
        | (go_at_call 57; refine hcan.mono ?_; rintro e W0 ⟨rfl, hW0⟩; have hW1 := hW0.symm; subst hW1)
        | (go_at_call 58; refine hbeg.mono ?_; rintro e w1 ⟨q, m, d, rfl, hin1, hq1, hk1, ep', el', ec', hc1, he1⟩; clear hbeg hcan; have hk1s := hk1.size; have hB1 := hB0.keep hk1 (fun e => hne e.symm); have hB2 := hB1.alloc (.cells #[.int .i64 E.at', .int .i64 E.kind, .slice q m d] 72); have g1 := hB2.cell' p1; have gf := hB2.frozen (bk * 4 + 1); have hgV : g ≠ w1.heap.size := by omega))
      have tX := Turned.setCell (w1.alloc (.cells #[.int .i64 E.at', .int .i64 E.kind, .slice q m d] 72)) ⟨g, bk * 4 + 1, none⟩ (.int .i64 ((K.wear : Int) + 1))
      have hbX := below_alloc w1 (.cells #[.int .i64 E.at', .int .i64 E.kind, .slice q m d] 72)
      have hV2 : Blk (w1.alloc (.cells #[.int .i64 E.at', .int .i64 E.kind, .slice q m d] 72)) w1.heap.size 72 [.int .i64 E.at', .int .i64 E.kind, .slice q m d] := Blk.new' w1 72 #[.int .i64 E.at', .int .i64 E.kind, .slice q m d]
      have hV3 := hV2.setOther ⟨g, bk * 4 + 1, none⟩ (.int .i64 ((K.wear : Int) + 1)) hgV.symm
      have hk13 : Keep (fun k => k = r ∨ k = g ∨ (PR bk).ownBlock = some k ∨ w.heap.size ≤ k) w1 ((w1.alloc (.cells #[.int .i64 E.at', .int .i64 E.kind, .slice q m d] 72)).setCell ⟨g, bk * 4 + 1, none⟩ (.int .i64 ((K.wear : Int) + 1))) := ((Keep.refl _ w1).alloc _).setCell ⟨g, bk * 4 + 1, none⟩ (.int .i64 ((K.wear : Int) + 1)) (.inr (.inl rfl))
      have hB3 := hB2.set (bk * 4 + 1) (.int .i64 ((K.wear : Int) + 1))
      have hc3 := (hc1.alloc (.cells #[.int .i64 E.at', .int .i64 E.kind, .slice q m d] 72)).setOther ⟨g, bk * 4 + 1, none⟩ (.int .i64 ((K.wear : Int) + 1)) hne
      have hbP3 := ((hbP.keep hk1 hgn.1).alloc (.cells #[.int .i64 E.at', .int .i64 E.kind, .slice q m d] 72)).setOther ⟨g, bk * 4 + 1, none⟩ (.int .i64 ((K.wear : Int) + 1)) hgn.2
      have hpg3 : PagesIn ((w1.alloc (.cells #[.int .i64 E.at', .int .i64 E.kind, .slice q m d] 72)).setCell ⟨g, bk * 4 + 1, none⟩ (.int .i64 ((K.wear : Int) + 1))) (PR bk) (allP s.np K) := ((hpgw.same (w' := w1) (fun k hk' => hk1.block k (hpgw.lt hk') (by rw [hgp] at hk'; cases hk'; exact hgn.1))).below hbX).same (fun k hk' => tX.block k (by rw [hgp] at hk'; cases hk'; exact hgn.2))
      have hin3 : In ((w1.alloc (.cells #[.int .i64 E.at', .int .i64 E.kind, .slice q m d] 72)).setCell ⟨g, bk * 4 + 1, none⟩ (.int .i64 ((K.wear : Int) + 1))) q m d E.mask := (hin1.below hbX).same (by rw [tX.size]; exact Nat.le_refl _) (fun a ha hqa hl' => tX.block _ (fun e => hq1 a ha hqa (.inl (.inl (.inr (.inl e))))))
      have hVl : w1.heap.size < ((w1.alloc (.cells #[.int .i64 E.at', .int .i64 E.kind, .slice q m d] 72)).setCell ⟨g, bk * 4 + 1, none⟩ (.int .i64 ((K.wear : Int) + 1))).heap.size := hV3.lt
      generalize ((w1.alloc (.cells #[.int .i64 E.at', .int .i64 E.kind, .slice q m d] 72)).setCell ⟨g, bk * 4 + 1, none⟩ (.int .i64 ((K.wear : Int) + 1))) = W3 at *
      clear tX hbX hV2 hB2 g1 gf hB1
      obtain ⟨V, hV⟩ : ∃ V, w1.heap.size = V := ⟨_, rfl⟩
      rw [hV] at hV3 hVl hgV ⊢
      obtain ⟨BC1, hBC1⟩ : ∃ BC1, BC0.set (bk * 4 + 1) (.int .i64 ((K.wear : Int) + 1)) = BC1 := ⟨_, rfl⟩
      rw [hBC1] at hB3 hR1
      have q0 : BC1[bk * 4]? = some (PR bk) := hR1.own.1
      have q0v := q0
      rw [hv] at q0v
      have hl1 : BC1.length = BC0.length := hR1.len
      obtain ⟨ps, hps⟩ : ∃ ps, allP s.np K = ps := ⟨_, rfl⟩
      rw [hps] at hlen hpg3
      rw [hv] at hpg3
      have HL : Hid (ps.length = s.np) := hlen
      clear hps hin3 hV3 hiP htk
      go_wp2
      go_loopw [8] (fun t wr => ∃ k : Nat, k ≤ s.np ∧ t = .int .i64 (k : Int) ∧ PagesIn wr (.slice (some ⟨gp, 0, none⟩) s.np cap) (mixP ps k) ∧ Keep (fun j => j = gp ∨ W3.heap.size ≤ j) W3 wr) (fun t _ => s.np - (intOf t).toNat)
      case atStart => exact ⟨0, Nat.zero_le _, rfl, (show mixP ps 0 = ps from by simp [mixP]) ▸ hpg3, Keep.refl _ _⟩
      case round =>
        obtain ⟨k, hkle, rfl, hpk, hkr⟩ := hrel
        have hrs := hkr.size
        have hcr := hc3.keep hkr (fun e => e.elim (fun e => hgn.1 e.symm) (fun e => by omega))
        have hBr := hB3.keep hkr (fun e => e.elim (fun e => hgn.2 e.symm) (fun e => by omega))
        have cr1 := hcr.cell' (i := 1) rfl
        by_cases hlt : k < s.np
        · have hki : (k : Int) < (s.np : Int) := by omega
          go_upto_region 15 with fail
          refine wp_region_noPanic ?_
          refine wp_region_held_drew (S := fun w' => w'.cell? ⟨g, bk * 4, none⟩ = some (.slice (some ⟨gp, 0, none⟩) s.np cap)) (by kernel_rfl) (hBr.drew.cell' q0v) (fun hHeld => ?_)
          refine wpAnyH_take (i := 0) (v := ?_) rfl (by kernel_rfl) (by kernel_rfl) (by kernel_rfl) (fun _ _ _ h => h) (Or.inl ⟨by rfl, ?_⟩) hHeld ?_
          rotate_left
          · intro w' hSw; try dsimp only at hSw
            go_simp; try (with_reducible rfl)
          try simp only [Act.put, List.getElem_toArray, List.getElem_cons_succ, List.getElem_cons_zero, List.setIfInBounds_toArray, List.set_cons_zero, List.set_cons_succ]
          refine wpAnyH_take (i := 1) (v := ?_) rfl (by kernel_rfl) (by kernel_rfl) (by kernel_rfl) (fun _ _ _ h => h) (Or.inl ⟨by rfl, ?_⟩) hHeld ?_
          rotate_left
          · intro w' hSw; try dsimp only at hSw
            go_simp; try (with_reducible rfl)
          try simp only [Act.put, List.getElem_toArray, List.getElem_cons_succ, List.getElem_cons_zero, List.setIfInBounds_toArray, List.set_cons_zero, List.set_cons_succ]
          refine wpAnyH_take (i := 2) (v := ?_) rfl (by kernel_rfl) (by kernel_rfl) (by kernel_rfl) (fun _ _ _ h => h) (Or.inl ⟨by rfl, ?_⟩) hHeld ?_
          rotate_left
          · intro w' hSw; try dsimp only at hSw
            go_simp; try (with_reducible rfl)
          try simp only [Act.put, List.getElem_toArray, List.getElem_cons_succ, List.getElem_cons_zero, List.setIfInBounds_toArray, List.set_cons_zero, List.set_cons_succ]
          refine wpAnyH_take (i := 3) (v := ?_) rfl (by kernel_rfl) (by kernel_rfl) (by kernel_rfl) (fun _ _ _ h => h) (Or.inl ⟨by rfl, ?_⟩) hHeld ?_
          rotate_left
          · intro w' hSw; try dsimp only at hSw
            have z := hSw
            go_simp; try (with_reducible rfl)
          try simp only [Act.put, List.getElem_toArray, List.getElem_cons_succ, List.getElem_cons_zero, List.setIfInBounds_toArray, List.set_cons_zero, List.set_cons_succ]
          refine wpAnyH_take (i := 4) (v := ?_) rfl (by kernel_rfl) (by kernel_rfl) (by kernel_rfl) (fun _ _ _ h => h) (Or.inl ⟨by rfl, ?_⟩) hHeld ?_
          rotate_left
          · intro w' hSw; try dsimp only at hSw
            go_simp; try (with_reducible rfl)
          try simp only [Act.put, List.getElem_toArray, List.getElem_cons_succ, List.getElem_cons_zero, List.setIfInBounds_toArray, List.set_cons_zero, List.set_cons_succ]
          refine wpAnyH_ready (rs := [5]) (by kernel_rfl) (by simp) ?_
          refine AllReadyH.cons rfl (fun K hK => ?_) AllReadyH.nil
          go_simp
          refine (rblank_any _).mono ?_
          rintro e9 f5 ⟨rfl, hb5⟩
          refine hK.out _ _ ((hBr.drew.kept hb5).cell' q0v) (fun hHeld => ?_)
          clear hK K
          try simp only [Act.put, List.getElem_toArray, List.getElem_cons_succ, List.getElem_cons_zero, List.setIfInBounds_toArray, List.set_cons_zero, List.set_cons_succ]
          refine wpAnyH_take (i := 6) (v := ?_) rfl (by kernel_rfl) (by kernel_rfl) (by kernel_rfl) (fun _ _ _ h => h) (Or.inl ⟨by rfl, ?_⟩) hHeld ?_
          rotate_left
          · intro w' hSw; try dsimp only at hSw
            go_simp; try (with_reducible rfl)
          try simp only [Act.put, List.getElem_toArray, List.getElem_cons_succ, List.getElem_cons_zero, List.setIfInBounds_toArray, List.set_cons_zero, List.set_cons_succ]
          have hp5 := (hpk.below (Below.refl _ _).drew).below hb5
          have hpl5 : (mixP ps k).length = s.np := (mixP_length (by rw [HL.out]; omega)).trans HL.out
          obtain ⟨gq, capq, curq, hvq, hbq, hcq, _, hsq, _⟩ := hp5.at' (by intro e; rw [e] at hpl5; simp at hpl5; omega)
          simp only [Value.slice.injEq, Option.some.injEq, Addr.mk.injEq, and_true] at hvq
          obtain ⟨rfl, _, rfl⟩ := hvq
          refine wpAnyH_ready (rs := [7]) (by kernel_rfl) (by simp) ?_
          refine AllReadyH.cons rfl (fun K hK => ?_) AllReadyH.nil
          rw [if_pos (by rfl)]
          refine wp_store_blk 46 (.tmp 79) (.tmp 78) rfl gp (k * 288) (vals (fillP 255)) ?_ rfl hbq (by rw [vals_length, fillP_length, hsq]; omega) (sizeP (fillP_length _)) (vals_one _) ?_
          · rfl
          intro w7 h7 ht7
          rw [vals_length, fillP_length] at h7
          refine hK.out _ _ (((hBr.drew.kept hb5).turned ht7 (fun e => hgn.2 e.symm)).cell' q0v) (fun hHeld => ?_)
          clear hK K
          try simp only [Act.put, List.getElem_toArray, List.getElem_cons_succ, List.getElem_cons_zero, List.setIfInBounds_toArray, List.set_cons_zero, List.set_cons_succ]
          refine wpAnyH_done (by kernel_rfl) ?_ _
          refine NoPanic.normal ?_
          clear hHeld
          have hp7 := hp5.put (p := k) (by rw [hpl5]; exact hlt) (isP_fill 255 (by omega)) hbq h7
          rw [mixP_set (by rw [HL.out]; exact hlt)] at hp7
          have hk7 : Keep (fun j => j = gp ∨ W3.heap.size ≤ j) W3 w7 := ((hkr.drew.trans (Keep.of_below (S := fun _ => False) hb5) (fun _ _ e => e.elim)).trans (Keep.of_turned (S := fun k => k = gp) ht7 rfl) (fun _ _ e => .inl e))
          go_wp2
          go_roundw
          case rel => exact ⟨k + 1, by omega, by go_num, hp7, hk7⟩
          case measure => simp [intOf]; omega
        · obtain rfl : k = s.np := by omega
          have hkn2 : ¬ (s.np : Int) < (s.np : Int) := by omega
          have h2 := hR1.own.2.2.1
          have g2 := hBr.cell' h2
          have gf2 := hBr.frozen (bk * 4 + 2)
          go_wp2
          go_ret
          have tY := Turned.setCell wr ⟨g, bk * 4 + 1 + 1, none⟩ (.int .i64 0)
          have hBf := hBr.set (bk * 4 + 1 + 1) (.int .i64 0)
          have hcf := hcr.setOther ⟨g, bk * 4 + 1 + 1, none⟩ (.int .i64 0) hne
          have hpf : PagesIn (wr.setCell ⟨g, bk * 4 + 1 + 1, none⟩ (.int .i64 0)) (PR bk) (List.replicate s.np (fillP 255)) := by
            have := hpk.same (w' := wr.setCell ⟨g, bk * 4 + 1 + 1, none⟩ (.int .i64 0)) (fun j hj => tY.block j (by cases hj; exact hgn.2))
            rw [← HL.out, mixP_all, HL.out, ← hv] at this
            exact this
          have hkf := (hk13.trans hkr (fun j hj e => e.elim (fun e => by subst e; exact .inr (.inr (.inl hgp))) (fun e => by omega))).setCell ⟨g, bk * 4 + 1 + 1, none⟩ (.int .i64 0) (.inr (.inl rfl))
          have hon2 : onEv s.ev (s.ops + 1) s.on = s.on := by rw [hok, if_neg (by rw [HK0.out]; decide)]
          rw [← hon2] at hcf
          exact ⟨rfl, rfin2 HRS.out hbk hcell0 hl0 hk1 he1 hkf hcf hBf (hR1.next hnb4 [] 0 0 rfl) (by rw [allP_blank]; exact hpf) (fun k hk => .inl hk) ⟨Nat.zero_le _, Nat.zero_le _, by show K.wear + 1 ≤ s.ops + 1; omega⟩⟩
    · have hkn : (E.kind != 0) = true := by simpa using hk0
      have HB := erased_ev (np := s.np) hk0 HK hbad
      rw [HB]
      obtain ⟨TP, hTP⟩ : ∃ TP, tornPs s.np K E.mask = TP := ⟨_, rfl⟩
      rw [hTP]
      have HTE : Hid (tornPs s.np K E.mask = TP) := hTP
      clear hTP
      have HBD : Hid (K.bad = false) := hbad
      clear HB hbad
      go_enter Try.func45, Try.ntmps45
      go_upto_region 8 with (first
        | (go_at_call 57; refine hcan.mono ?_; rintro e W0 ⟨rfl, hW0⟩; have hW1 := hW0.symm; subst hW1)
        | (go_at_call 58; refine hbeg.mono ?_; rintro e w1 ⟨q, m, d, rfl, hin1, hq1, hk1, ep', el', ec', hc1, he1⟩; clear hbeg hcan; have hk1s := hk1.size; have hB1 := hB0.keep hk1 (fun e => hne e.symm); have hB2 := hB1.alloc (.cells #[.int .i64 E.at', .int .i64 E.kind, .slice q m d] 72); have g1 := hB2.cell' p1; have gf := hB2.frozen (bk * 4 + 1); have hgV : g ≠ w1.heap.size := by omega))
      have tX := Turned.setCell (w1.alloc (.cells #[.int .i64 E.at', .int .i64 E.kind, .slice q m d] 72)) ⟨g, bk * 4 + 1, none⟩ (.int .i64 ((K.wear : Int) + 1))
      have hbX := below_alloc w1 (.cells #[.int .i64 E.at', .int .i64 E.kind, .slice q m d] 72)
      have hV2 : Blk (w1.alloc (.cells #[.int .i64 E.at', .int .i64 E.kind, .slice q m d] 72)) w1.heap.size 72 [.int .i64 E.at', .int .i64 E.kind, .slice q m d] := Blk.new' w1 72 #[.int .i64 E.at', .int .i64 E.kind, .slice q m d]
      have hV3 := hV2.setOther ⟨g, bk * 4 + 1, none⟩ (.int .i64 ((K.wear : Int) + 1)) hgV.symm
      have hk13 : Keep (fun k => k = r ∨ k = g ∨ (PR bk).ownBlock = some k ∨ w.heap.size ≤ k) w1 ((w1.alloc (.cells #[.int .i64 E.at', .int .i64 E.kind, .slice q m d] 72)).setCell ⟨g, bk * 4 + 1, none⟩ (.int .i64 ((K.wear : Int) + 1))) := ((Keep.refl _ w1).alloc _).setCell ⟨g, bk * 4 + 1, none⟩ (.int .i64 ((K.wear : Int) + 1)) (.inr (.inl rfl))
      have hB3 := hB2.set (bk * 4 + 1) (.int .i64 ((K.wear : Int) + 1))
      have hc3 := (hc1.alloc (.cells #[.int .i64 E.at', .int .i64 E.kind, .slice q m d] 72)).setOther ⟨g, bk * 4 + 1, none⟩ (.int .i64 ((K.wear : Int) + 1)) hne
      have hbP3 := ((hbP.keep hk1 hgn.1).alloc (.cells #[.int .i64 E.at', .int .i64 E.kind, .slice q m d] 72)).setOther ⟨g, bk * 4 + 1, none⟩ (.int .i64 ((K.wear : Int) + 1)) hgn.2
      have hpg3 : PagesIn ((w1.alloc (.cells #[.int .i64 E.at', .int .i64 E.kind, .slice q m d] 72)).setCell ⟨g, bk * 4 + 1, none⟩ (.int .i64 ((K.wear : Int) + 1))) (PR bk) (allP s.np K) := ((hpgw.same (w' := w1) (fun k hk' => hk1.block k (hpgw.lt hk') (by rw [hgp] at hk'; cases hk'; exact hgn.1))).below hbX).same (fun k hk' => tX.block k (by rw [hgp] at hk'; cases hk'; exact hgn.2))
      have hin3 : In ((w1.alloc (.cells #[.int .i64 E.at', .int .i64 E.kind, .slice q m d] 72)).setCell ⟨g, bk * 4 + 1, none⟩ (.int .i64 ((K.wear : Int) + 1))) q m d E.mask := (hin1.below hbX).same (by rw [tX.size]; exact Nat.le_refl _) (fun a ha hqa hl' => tX.block _ (fun e => hq1 a ha hqa (.inl (.inl (.inr (.inl e))))))
      have hVl : w1.heap.size < ((w1.alloc (.cells #[.int .i64 E.at', .int .i64 E.kind, .slice q m d] 72)).setCell ⟨g, bk * 4 + 1, none⟩ (.int .i64 ((K.wear : Int) + 1))).heap.size := hV3.lt
      generalize ((w1.alloc (.cells #[.int .i64 E.at', .int .i64 E.kind, .slice q m d] 72)).setCell ⟨g, bk * 4 + 1, none⟩ (.int .i64 ((K.wear : Int) + 1))) = W3 at *
      clear tX hbX hV2 hB2 g1 gf hB1
      obtain ⟨V, hV⟩ : ∃ V, w1.heap.size = V := ⟨_, rfl⟩
      rw [hV] at hV3 hVl hgV ⊢
      obtain ⟨BC1, hBC1⟩ : ∃ BC1, BC0.set (bk * 4 + 1) (.int .i64 ((K.wear : Int) + 1)) = BC1 := ⟨_, rfl⟩
      rw [hBC1] at hB3 hR1
      have q0 : BC1[bk * 4]? = some (PR bk) := hR1.own.1
      have q0v := q0
      rw [hv] at q0v
      have hl1 : BC1.length = BC0.length := hR1.len
      have hnp32 : s.np ≤ 32 := hnpl.2
      have hTL : (tornPs s.np K E.mask).length = s.np := chunk_length _ _
      have hm3 := fun W (hW : Below W3.heap.size W3 W) => masked_any gp s.np cap (allP s.np K) q m d E.mask W hiP hlen hnp32 (cells_take (hbP3.kept hW) htk) (Nat.lt_of_lt_of_le hbP3.lt hW.size) (hin3.below hW)
      change ∀ W (hW : Below W3.heap.size W3 W), Calls Try.prog 59 #[.slice (some ⟨gp, 0, none⟩) s.np cap, .slice q m d] W fun e w' => ∃ v, e = .returned v ∧ PagesIn w' v (tornPs s.np K E.mask) ∧ (∀ k, v.ownBlock = some k → W.heap.size ≤ k) ∧ Below W.heap.size W w' at hm3
      rw [HTE.out] at hm3 hTL
      have HTL : Hid (TP.length = s.np) := hTL
      clear hTL
      refine wp_region_noPanic ?_
      refine wp_region_held_drew (S := fun w' => w'.cell? ⟨V, 2, none⟩ = some (.slice q m d)) (by kernel_rfl) (hV3.drew.cell' (i := 2) rfl) (fun hHeld => ?_)
      refine wpAnyH_take (i := 0) (v := ?_) rfl (by kernel_rfl) (by kernel_rfl) (by kernel_rfl) (fun _ _ _ h => h) (Or.inl ⟨by rfl, ?_⟩) hHeld ?_
      rotate_left
      · intro w' hSw; try dsimp only at hSw
        go_simp; try (with_reducible rfl)
      try simp only [Act.put, List.getElem_toArray, List.getElem_cons_succ, List.getElem_cons_zero, List.setIfInBounds_toArray, List.set_cons_zero, List.set_cons_succ]
      refine wpAnyH_take (i := 1) (v := ?_) rfl (by kernel_rfl) (by kernel_rfl) (by kernel_rfl) (fun _ _ _ h => h) (Or.inl ⟨by rfl, ?_⟩) hHeld ?_
      rotate_left
      · intro w' hSw; try dsimp only at hSw
        go_simp; try (with_reducible rfl)
      try simp only [Act.put, List.getElem_toArray, List.getElem_cons_succ, List.getElem_cons_zero, List.setIfInBounds_toArray, List.set_cons_zero, List.set_cons_succ]
      refine wpAnyH_take (i := 2) (v := ?_) rfl (by kernel_rfl) (by kernel_rfl) (by kernel_rfl) (fun _ _ _ h => h) (Or.inl ⟨by rfl, ?_⟩) hHeld ?_
      rotate_left
      · intro w' hSw; try dsimp only at hSw
        go_simp; try (with_reducible rfl)
      try simp only [Act.put, List.getElem_toArray, List.getElem_cons_succ, List.getElem_cons_zero, List.setIfInBounds_toArray, List.set_cons_zero, List.set_cons_succ]
      refine wpAnyH_take (i := 3) (v := ?_) rfl (by kernel_rfl) (by kernel_rfl) (by kernel_rfl) (fun _ _ _ h => h) (Or.inl ⟨by rfl, ?_⟩) hHeld ?_
      rotate_left
      · intro w' hSw; try dsimp only at hSw
        go_simp; try (with_reducible rfl)
      try simp only [Act.put, List.getElem_toArray, List.getElem_cons_succ, List.getElem_cons_zero, List.setIfInBounds_toArray, List.set_cons_zero, List.set_cons_succ]
      refine wpAnyH_take (i := 5) (v := ?_) rfl (by kernel_rfl) (by kernel_rfl) (by kernel_rfl) (fun _ _ _ h => h) (Or.inl ⟨by rfl, ?_⟩) hHeld ?_
      rotate_left
      · intro w' hSw; try dsimp only at hSw
        go_simp; try (with_reducible rfl)
      try simp only [Act.put, List.getElem_toArray, List.getElem_cons_succ, List.getElem_cons_zero, List.setIfInBounds_toArray, List.set_cons_zero, List.set_cons_succ]
      refine wpAnyH_take (i := 6) (v := ?_) rfl (by kernel_rfl) (by kernel_rfl) (by kernel_rfl) (fun _ _ _ h => h) (Or.inl ⟨by rfl, ?_⟩) hHeld ?_
      rotate_left
      · intro w' hSw; try dsimp only at hSw
        have z := hSw
        go_simp; try (with_reducible rfl)
      try simp only [Act.put, List.getElem_toArray, List.getElem_cons_succ, List.getElem_cons_zero, List.setIfInBounds_toArray, List.set_cons_zero, List.set_cons_succ]
      refine wpAnyH_ready (rs := [4]) (by kernel_rfl) (by simp) ?_
      refine AllReadyH.cons rfl (fun K hK => ?_) AllReadyH.nil
      have c4 := hB3.drew.cell' q0v
      go_simp
      refine hK.out _ _ (hV3.drew.cell' (i := 2) rfl) (fun hHeld => ?_)
      clear hK K
      try simp only [Act.put, List.getElem_toArray, List.getElem_cons_succ, List.getElem_cons_zero, List.setIfInBounds_toArray, List.set_cons_zero, List.set_cons_succ]
      refine wpAnyH_ready (rs := [7]) (by kernel_rfl) (by simp) ?_
      refine AllReadyH.cons rfl (fun K hK => ?_) AllReadyH.nil
      go_simp
      refine (hm3 _ (Below.refl _ _).drew).mono ?_
      rintro e W4 ⟨v4, rfl, hp4, hv4, hb4⟩
      obtain ⟨p4, cap4, rfl, _⟩ := hp4.shape
      refine hK.out _ _ ((hV3.drew.kept hb4).cell' (i := 2) rfl) (fun hHeld => ?_)
      clear hK K
      try simp only [Act.put, List.getElem_toArray, List.getElem_cons_succ, List.getElem_cons_zero, List.setIfInBounds_toArray, List.set_cons_zero, List.set_cons_succ]
      refine wpAnyH_take (i := 8) (v := ?_) rfl (by kernel_rfl) (by kernel_rfl) (by kernel_rfl) (fun _ _ _ h => h) (Or.inl ⟨by rfl, ?_⟩) hHeld ?_
      rotate_left
      · intro w' hSw; try dsimp only at hSw
        go_simp; try (with_reducible rfl)
      try simp only [Act.put, List.getElem_toArray, List.getElem_cons_succ, List.getElem_cons_zero, List.setIfInBounds_toArray, List.set_cons_zero, List.set_cons_succ]
      refine wpAnyH_take (i := 9) (v := ?_) rfl (by kernel_rfl) (by kernel_rfl) (by kernel_rfl) (fun _ _ _ h => h) (Or.inl ⟨by rfl, ?_⟩) hHeld ?_
      rotate_left
      · intro w' hSw; try dsimp only at hSw
        go_simp; try (with_reducible rfl)
      try simp only [Act.put, List.getElem_toArray, List.getElem_cons_succ, List.getElem_cons_zero, List.setIfInBounds_toArray, List.set_cons_zero, List.set_cons_succ]
      refine wpAnyH_ready (rs := [10]) (by kernel_rfl) (by simp) ?_
      refine AllReadyH.cons rfl (fun K hK => ?_) AllReadyH.nil
      have hB4 := hB3.drew.kept hb4
      have c10 := hB4.cell' q0v
      have f10 := hB4.frozen (bk * 4)
      go_simp
      refine hK.out _ _ ((((hV3.drew.kept hb4).setOther ⟨g, bk * 4, none⟩ _ hgV.symm).cell' (i := 2) rfl)) (fun hHeld => ?_)
      clear hK K
      try simp only [Act.put, List.getElem_toArray, List.getElem_cons_succ, List.getElem_cons_zero, List.setIfInBounds_toArray, List.set_cons_zero, List.set_cons_succ]
      refine wpAnyH_done (by kernel_rfl) ?_ _
      refine NoPanic.normal ?_
      clear hHeld c10 f10 hm3
      rw [HTL.out] at hp4 hv4 ⊢
      have hW4s : V < W4.heap.size := Nat.lt_of_lt_of_le hV3.lt hb4.size
      have tY := Turned.setCell W4 ⟨g, bk * 4, none⟩ (.slice p4 s.np cap4)
      have hB5 := hB4.set (bk * 4) (.slice p4 s.np cap4)
      have hV5 := (hV3.drew.kept hb4).setOther ⟨g, bk * 4, none⟩ (.slice p4 s.np cap4) hgV.symm
      have hc5 := (hc3.drew.kept hb4).setOther ⟨g, bk * 4, none⟩ (.slice p4 s.np cap4) hne
      have hv4g : ∀ k, (Value.slice p4 s.np cap4).ownBlock = some k → W3.heap.size ≤ k := hv4
      have hp5 := hp4.same (w' := W4.setCell ⟨g, bk * 4, none⟩ (.slice p4 s.np cap4)) (fun j hj => tY.block j (by have := hv4g j hj; show j ≠ g; omega))
      have hk15 := (hk13.drew.trans (Keep.of_below (S := fun _ => False) hb4) (fun _ _ e => e.elim)).setCell ⟨g, bk * 4, none⟩ (.slice p4 s.np cap4) (.inr (.inl rfl))
      have hs5 : (W4.setCell ⟨g, bk * 4, none⟩ (.slice p4 s.np cap4)).heap.size = W4.heap.size := tY.size
      generalize W4.setCell ⟨g, bk * 4, none⟩ (.slice p4 s.np cap4) = W5 at *
      clear hp4 hb4 hB4 tY
      have m0 := hV5.cell' (i := 0) rfl
      have m1 := hV5.cell' (i := 1) rfl
      have m2 := hV5.cell' (i := 2) rfl
      have h22 := hR1.own.2.2.1
      have h23 := hR1.own.2.2.2
      have g2 := hB5.cell' (i := bk * 4 + 2) (by rw [List.getElem?_set_ne (by omega)]; exact h22)
      have gf2 := hB5.frozen (bk * 4 + 2)
      have g3 := hB5.cell' (i := bk * 4 + 3) (by rw [List.getElem?_set_ne (by omega)]; exact h23)
      have gf3 := hB5.frozen (bk * 4 + 3)
      have r1 := hc5.cell' (i := 1) rfl
      go_wp2_with (go_at_call 60; refine (hend _ q m d _ ((hc5.setOther _ _ hne).setOther _ _ hne)).mono ?_; rintro e w9 ⟨rfl, hc9, hk9⟩)
      go_ret
      rw [← hok] at hc9
      have hB9 := ((hB5.set (bk * 4 + 1 + 1) (.int .i64 (s.np : Int))).set (bk * 4 + 1 + 2) (.bool (E.kind == 1))).keep hk9 (fun e => hne e.symm)
      have tA := Turned.setCell W5 ⟨g, bk * 4 + 1 + 1, none⟩ (.int .i64 (s.np : Int))
      have tB := Turned.setCell (W5.setCell ⟨g, bk * 4 + 1 + 1, none⟩ (.int .i64 (s.np : Int))) ⟨g, bk * 4 + 1 + 2, none⟩ (.bool (E.kind == 1))
      have hp9 : PagesIn w9 (.slice p4 s.np cap4) TP := ((hp5.same (fun j hj => tA.block j (by have := hv4g j hj; show j ≠ g; omega))).same (fun j hj => tB.block j (by have := hv4g j hj; show j ≠ g; omega))).same (fun j hj => hk9.block j (by rw [tB.size, tA.size]; exact hp5.lt hj) (by have := hv4g j hj; omega))
      have hk19 := ((hk15.setCell ⟨g, bk * 4 + 1 + 1, none⟩ (.int .i64 (s.np : Int)) (.inr (.inl rfl))).setCell ⟨g, bk * 4 + 1 + 2, none⟩ (.bool (E.kind == 1)) (.inr (.inl rfl))).trans hk9 (fun _ _ e => .inl e)
      have hRf := ((hR1.put (v' := .slice p4 s.np cap4) hnb4 (trimP TP) s.np (s.np : Int) rfl).setBad hnb4 (E.kind == 1))
      have hlt := trimP_length TP
      have HTP := allP_trim HTL.out (K.wear + 1) s.np (E.kind == 1)
      exact ⟨rfl, rfin2 HRS.out hbk hcell0 hl0 hk1 he1 hk19 hc9 hB9 hRf (by rw [HTP]; exact hp9) (fun k hk => .inr (by have := hv4g k hk; omega)) ⟨by show (trimP TP).length ≤ s.np; rw [HTL.out] at hlt; exact hlt, Nat.le_refl _, by show K.wear + 1 ≤ s.ops + 1; omega⟩⟩
  · obtain ⟨e1, e2⟩ := erase_cannot hc
    rw [e1, e2]
    clear e1 e2
    have hc2 : (canE s b 0 != 0) = true := by simpa using hc
    generalize canE s b 0 = ce at *
    go_enter Try.func45, Try.ntmps45
    go_wp2_with (go_at_call 57; refine hcan.mono ?_; rintro e W0 ⟨rfl, hW0⟩; have hW1 := hW0.symm; subst hW1)
    go_ret
    exact ⟨rfl, RAft.refused h (Below.refl _ _)⟩
end Go.Proofs.Ythafcnilhloldaa
