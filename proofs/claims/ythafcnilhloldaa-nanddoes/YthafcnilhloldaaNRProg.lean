/-
  The reference's Program.
-/
import Derived.Test.YthafcnilhloldaaNRProgP
namespace Go.Proofs.Ythafcnilhloldaa
open Go.RowKit Go.Shelf
theorem rfin {w wf : World} {r : Nat} {s : St} {g cr : Nat} {PR : Nat → Value} {bk : Nat} {K' : BlkS} {v' : Value} {BC BC' : List Value} {ep : Option Addr} {el ec : Nat} (h : RsIn w r s g cr PR) (hbk : bk < s.nb)
    (hcell : ∀ i b, s.bl[i]? = some b → BC[i * 4]? = some (PR i) ∧ BC[i * 4 + 1]? = some (.int .i64 (b.wear : Int)) ∧ BC[i * 4 + 2]? = some (.int .i64 (b.next : Int)) ∧ BC[i * 4 + 3]? = some (.bool b.bad)) (hl : BC.length = cr * 4)
    (hchip : Blk wf r 85 (chipCells s.nb s.np (.slice (some ⟨g, 0, none⟩) s.nb cr) (.slice ep el ec) (s.ops + 1) (onEv s.ev (s.ops + 1) s.on)))
    (hE : EvsIn (fun k => fpN r g PR s.nb w.heap.size k ∨ s.z k) wf ep el ec (restEv s.ev (s.ops + 1))) (hBf : Blk wf g 87 BC') (hR : RowAt BC BC' bk v' K')
    (hp : PagesIn wf v' (allP s.np K')) (hfr : ∀ k, v'.ownBlock = some k → (PR bk).ownBlock = some k ∨ w.heap.size ≤ k) (hkw : Keep (fun k => k = r ∨ k = g ∨ (PR bk).ownBlock = some k) w wf)
    (hlim : K'.pages.length ≤ K'.next ∧ K'.next ≤ s.np ∧ K'.wear ≤ s.ops + 1) : RAft w wf r s (stepSt s bk K') g cr PR := by
  obtain ⟨hci, hfp⟩ := h.step (K' := K') hbk hchip hE hBf (by rw [hR.len, hl]) hR.own
    (by
      intro j b hj hb
      obtain ⟨r0, r1, r2, r3⟩ := hcell j b hb
      refine ⟨?_, ?_, ?_, ?_⟩
      · rw [hR.oth _ (by omega)]; exact r0
      · rw [hR.oth _ (by omega)]; exact r1
      · rw [hR.oth _ (by omega)]; exact r2
      · rw [hR.oth _ (by omega)]; exact r3)
    hp hfr hkw hlim
  refine ⟨_, hci, hfp, hkw.mono ?_⟩
  rintro k _ (e | e | e)
  · exact .inl e
  · exact .inr (.inl e)
  · exact .inr (.inr ⟨bk, hbk, e⟩)
theorem RAft.refused {w w' : World} {r : Nat} {s : St} {g cr : Nat} {PR : Nat → Value} (h : RsIn w r s g cr PR) (hb : Below w.heap.size w w') : RAft w w' r s s g cr PR := ⟨PR, h.below hb, fun _ e => .inl e, Keep.of_below hb⟩
theorem rprog_end {w w1 w6 w7 w9 : World} {r : Nat} {s : St} {g cr : Nat} {PR : Nat → Value} {bk pk gp : Nat} {K : BlkS} {x' : List Nat} {BC : List Value} {ep : Option Addr} {el ec : Nat} (h : RsIn w r s g cr PR) (hbk : bk < s.nb) (hK : s.bl[bk]? = some K)
    (hcell : ∀ i b, s.bl[i]? = some b → BC[i * 4]? = some (PR i) ∧ BC[i * 4 + 1]? = some (.int .i64 (b.wear : Int)) ∧ BC[i * 4 + 2]? = some (.int .i64 (b.next : Int)) ∧ BC[i * 4 + 3]? = some (.bool b.bad)) (hl : BC.length = cr * 4)
    (hpk : K.next ≤ pk) (hpk2 : pk < s.np) (hk1 : Keep (fun k => k = r) w w1) (he1 : EvsIn (fun k => fpN r g PR s.nb w.heap.size k ∨ s.z k) w1 ep el ec (restEv s.ev (s.ops + 1))) (hk6 : Keep (fun k => w.heap.size ≤ k) w1 w6) (hk7 : Keep (fun k => k = gp) w6 w7) (hgp : (PR bk).ownBlock = some gp)
    (hB7 : Blk w7 g 87 BC) (hp7 : PagesIn w7 (PR bk) ((allP s.np K).set pk x')) (hk9 : Keep (fun k => k = r) (w7.setCell ⟨g, bk * 4 + 1 + 1, none⟩ (.int .i64 ((pk : Int) + 1))) w9)
    (hc9 : Blk w9 r 85 (chipCells s.nb s.np (.slice (some ⟨g, 0, none⟩) s.nb cr) (.slice ep el ec) (s.ops + 1) (onEv s.ev (s.ops + 1) s.on))) : RAft w w9 r s (stepSt s bk { K with pages := putP K.pages pk x', next := pk + 1 }) g cr PR := by
  obtain ⟨ep0, el0, ec0, hc0, _⟩ := h.chip
  obtain ⟨BC0, hB0, _⟩ := h.blks
  have hrl : r < w.heap.size := hc0.lt
  have hgl : g < w.heap.size := hB0.lt
  have s1 := hk1.size
  have s6 := hk6.size
  have s7 := hk7.size
  have hlim := h.lim K (List.mem_of_getElem? hK)
  have hler := h.ler
  obtain ⟨q0, q1, q2, q3⟩ := hcell bk K hK
  have hnb : bk * 4 + 3 < BC.length := by rw [hl]; omega
  have hgn := h.nec bk hbk gp hgp
  have tX := Turned.setCell w7 ⟨g, bk * 4 + 1 + 1, none⟩ (.int .i64 ((pk : Int) + 1))
  have hB8 := (hB7.set (bk * 4 + 1 + 1) (.int .i64 ((pk : Int) + 1))).keep hk9 (fun e => h.ne e.symm)
  have hp9 : PagesIn w9 (PR bk) ((allP s.np K).set pk x') := (hp7.same (w' := w7.setCell ⟨g, bk * 4 + 1 + 1, none⟩ (.int .i64 ((pk : Int) + 1))) (fun k hk => tX.block k (by rw [hgp] at hk; cases hk; exact hgn.2))).same (fun k hk => hk9.block k (by rw [hgp] at hk; cases hk; rw [tX.size]; exact hp7.lt hgp) (by rw [hgp] at hk; cases hk; exact hgn.1))
  have hkw7 : Keep (fun k => k = r ∨ k = g ∨ (PR bk).ownBlock = some k) w w7 := ((hk1.mono (fun k _ e => .inl e)).fresh hk6 (fun _ _ e => by omega)).trans hk7 (fun j _ e => by subst e; exact .inr (.inr hgp))
  have hkw8 := hkw7.setCell ⟨g, bk * 4 + 1 + 1, none⟩ (.int .i64 ((pk : Int) + 1)) (.inr (.inl rfl))
  have hkw9 := hkw8.trans hk9 (fun j _ e => .inl e)
  have hk19 : Keep (fpN r g PR s.nb w.heap.size) w1 w9 := by
    refine Keep.trans (Keep.setCell (Keep.trans (hk6.mono (fun k _ e => .inr e)) hk7 ?_) _ _ (.inl (.inr (.inl rfl)))) hk9 ?_
    · rintro j _ rfl; exact .inl (.inr (.inr ⟨bk, hbk, hgp⟩))
    · rintro j _ rfl; exact .inl (.inl rfl)
  have hR : RowAt BC (BC.set (bk * 4 + 1 + 1) (.int .i64 ((pk : Int) + 1))) bk (PR bk) { K with pages := putP K.pages pk x', next := pk + 1 } :=
    ⟨by rw [List.length_set], ⟨by rw [List.getElem?_set_ne (by omega)]; exact q0, by rw [List.getElem?_set_ne (by omega)]; exact q1, by rw [show bk * 4 + 2 = bk * 4 + 1 + 1 from rfl, List.getElem?_set_self (by omega)]; rfl, by rw [List.getElem?_set_ne (by omega)]; exact q3⟩, fun i hi => by rw [List.getElem?_set_ne (by omega)]⟩
  exact rfin h hbk hcell hl hc9 (he1.keep hk19 (fun _ _ e => .inl e)) hB8 hR (by rw [allP_put (by omega) hpk2]; exact hp9) (fun k hk => .inl hk) hkw9 ⟨by show (putP K.pages pk x').length ≤ pk + 1; rw [putP_length _ _ _ (by omega)]; exact Nat.le_refl _, by show pk + 1 ≤ s.np; omega, by show K.wear ≤ s.ops + 1; omega⟩
theorem chunk_one {M : List Nat} (h : M.length = 288) : chunk 1 M = [M] := by
  have e : chunk 1 M = [(M.drop 0).take 288] := rfl
  rw [e, List.drop_zero, List.take_of_length_le (by omega)]
theorem allP_at {np : Nat} {k : BlkS} {p : Nat} (h : p < np) : (allP np k)[p]? = some (k.pages.getD p blankP) := by
  unfold allP
  rw [List.getElem?_map, List.getElem?_range h]; rfl
theorem masked_one (g : Nat) (x : List Nat) (q : Option Addr) (m d : Nat) (ms : List Nat) (w : World) (hx : IsP x) (hB : Blk w g 46 (vals x)) (hm : In w q m d ms) :
    Calls Try.prog 59 #[.slice (some ⟨g, 0, none⟩) 1 1, .slice q m d] w fun e w' => ∃ g5 cap cur, e = .returned (.slice (some ⟨g5, 0, none⟩) 1 cap) ∧ Blk w' g5 46 cur ∧ 1 ≤ cap ∧ cur.take 288 = vals (maskL x ms) ∧ w.heap.size ≤ g5 ∧ Below w.heap.size w w' := by
  have e1 : [x].flatten = x := by simp
  refine (masked_any g 1 1 [x] q m d ms w (fun p hp => by rw [List.mem_singleton.1 hp]; exact hx) rfl (by omega) (by rw [e1]; intro j u hj; exact hB.cell' hj) hB.lt hm).mono ?_
  rintro e w' ⟨v, rfl, hp, hv, hb⟩
  rw [e1, chunk_one (by rw [maskL_length]; exact hx.1)] at hp
  obtain ⟨g5, cap, cur, rfl, h1, h2, _, _, h5⟩ := hp.at' (by simp)
  refine ⟨g5, cap, cur, rfl, h1, h2, ?_, hv _ rfl, hb⟩
  simpa using h5
set_option linter.unusedSimpArgs false in
set_option linter.unusedVariables false in
set_option maxRecDepth 100000 in
set_option maxHeartbeats 8000000 in
theorem rprog_any (r : Nat) (s : St) (g cr : Nat) (PR : Nat → Value) (b p : Int) (x : List Nat) (w : World) (h : RsIn w r s g cr PR) (hx : IsP x) (ho : s.ops < 4611686018427387904) (hK : ∀ e ∈ s.ev, e.kind = 1 ∨ e.kind = 2) :
    Calls Try.prog 44 #[.pointer (some ⟨r, 0, none⟩), .int .i64 b, .int .i64 p, .agg (vals x).toArray] w fun e w' => e = .returned (.int .i64 (progE s b p)) ∧ RAft w w' r s (progSt s b p x) g cr PR := by
  have hz := zeroPage
  have hbel := below_alloc w (.cells (vals x).toArray 46)
  have h1 := h.below hbel
  have bx := Blk.new' w 46 (vals x).toArray
  have hcan := can_any r s g cr PR b p _ h1
  have HX : Hid (x.length = 288) := hx.1
  by_cases hc : canE s b p = 0
  · obtain ⟨bk, pk, K, rfl, rfl, hbk, hpk, hon, hk, hbad⟩ := can_ok h1 hc
    obtain ⟨e1, e2⟩ := prog_can hbk hpk hon hk hbad x
    rw [hc] at hcan
    rw [e1, e2]
    clear e1 e2 hc
    obtain ⟨BC, hB, hl, hcell⟩ := h1.blks
    obtain ⟨q0, q1, q2, q3⟩ := hcell bk _ hk
    obtain ⟨ep, el, ec, hch, hev⟩ := h1.chip
    have hler := h.ler
    have c2 := hch.cell' (i := 2) rfl
    have n2 := hB.cell' q2
    have hbI : (bk : Int) < (s.nb : Int) := by omega
    by_cases hlt : (pk : Int) < (K.next : Int)
    · rw [if_pos hlt, if_pos hlt]
      clear hcell hB hch hev q0 q1 q2 q3 hk hbad hbk hpk hK
      generalize (K.next : Int) = kn at *
      go_enter Try.func44, Try.ntmps44
      go_wp2_with (go_at_call 57; refine hcan.mono ?_; rintro e w' ⟨rfl, rfl⟩)
      go_ret
      exact ⟨rfl, RAft.refused h hbel⟩
    · rw [if_neg hlt, if_neg hlt]
      obtain ⟨epw, elw, ecw, hcw, hew⟩ := h.chip
      obtain ⟨BC0, hB0, hl0, hcell0⟩ := h.blks
      have hEv := (hew.mono (T := fun k => fpN r g PR s.nb w.heap.size k ∨ s.z k) (fun k hk e => e.elim (fun e => e.elim .inl (fun e => by omega)) .inr)).keep (T := fun _ => False) (Keep.of_below hbel) (fun _ _ e => e.elim)
      have hbeg := begins_any r s.nb s.np _ epw elw ecw s.ops s.on s.ev (fun k => fpN r g PR s.nb w.heap.size k ∨ s.z k) _ (hcw.kept hbel) hEv (.inl (.inl (.inl rfl))) ho
      clear hB hcell hl
      have hB := hB0.kept hbel
      obtain ⟨p0, p1, p2, p3⟩ := hcell0 bk _ hk
      have HK := next_kind hK (s.ops + 1)
      have hok := on_kind (s.ops + 1) s.on hon hK
      have hpgw := h.pg bk K hk
      have hpgs := hpgw.below hbel
      have hlen := allP_length s.np K
      obtain ⟨gp, cap, cur, hv, hbP, hcap, hmx, hsz, htk⟩ := hpgs.at' (by intro e; rw [e] at hlen; simp at hlen; omega)
      rw [hlen] at hv hcap
      have hgp : (PR bk).ownBlock = some gp := by rw [hv]; rfl
      have hgpl : gp < w.heap.size := hpgw.lt hgp
      have hgn := h.nec bk hbk gp hgp
      have hrl : r < w.heap.size := hcw.lt
      have hgl : g < w.heap.size := hB0.lt
      have hN0 := Blk.new w 46 (vals x)
      have p0v := p0
      rw [hv] at p0v
      have hs0 : (w.alloc (.cells (vals x).toArray 46)).heap.size = w.heap.size + 1 := World.size_alloc _ _
      have hnext : K.next ≤ pk := by omega
      have HRS : Hid (RsIn w r s g cr PR) := h
      have hpkI : (pk : Int) < (s.np : Int) := by omega
      have hpl := h.npl
      have hze := zeroEv
      unfold evVal at hbeg
      clear q0 q1 q2 q3 hch hev hew hEv h1 hcw hpgw htk hmx
      generalize nextEv s.ev (s.ops + 1) = E at *
      by_cases hk0 : E.kind = 0
      · have e3 : tornX x E = x := if_pos hk0
        rw [e3]
        clear e3
        have hkn : (E.kind != 0) = false := by simpa using hk0
        have HK0 : Hid (E.kind = 0) := hk0
        clear hk0
        go_enter Try.func44, Try.ntmps44
        go_upto_region 10 with (first
          | (go_at_call 57; refine hcan.mono ?_; rintro e w' ⟨rfl, rfl⟩)
          | (go_at_call 58; refine hbeg.mono ?_; rintro e w1 ⟨q, m, d, rfl, hin1, hq1, hk1, ep', el', ec', hc1, he1⟩; clear hbeg hcan; have hk1s := hk1.size))
        have h2 : Blk (w1.alloc (.cells #[.int .i64 E.at', .int .i64 E.kind, .slice q m d] 72)) w1.heap.size 72 [.int .i64 E.at', .int .i64 E.kind, .slice q m d] := Blk.new' w1 72 #[.int .i64 E.at', .int .i64 E.kind, .slice q m d]
        have hb12 := below_alloc w1 (.cells #[.int .i64 E.at', .int .i64 E.kind, .slice q m d] 72)
        have hkw1 : Keep (fun k => k = r) w w1 := (Keep.of_below hbel).trans hk1 (fun _ _ e => e)
        have hk12 : Keep (fun k => w.heap.size ≤ k) w1 (w1.alloc (.cells #[.int .i64 E.at', .int .i64 E.kind, .slice q m d] 72)) := Keep.of_below hb12
        have hN2 := (hN0.keep hk1 (by omega)).alloc (.cells #[.int .i64 E.at', .int .i64 E.kind, .slice q m d] 72)
        have hB2 := (hB.keep hk1 (fun e => h.ne e.symm)).alloc (.cells #[.int .i64 E.at', .int .i64 E.kind, .slice q m d] 72)
        have hc2 := hc1.alloc (.cells #[.int .i64 E.at', .int .i64 E.kind, .slice q m d] 72)
        have hbP2 := (hbP.keep hk1 hgn.1).alloc (.cells #[.int .i64 E.at', .int .i64 E.kind, .slice q m d] 72)
        have hpg2 : PagesIn (w1.alloc (.cells #[.int .i64 E.at', .int .i64 E.kind, .slice q m d] 72)) (PR bk) (allP s.np K) := (hpgs.same (w' := w1) (fun k hk' => hk1.block k (hpgs.lt hk') (by rw [hgp] at hk'; cases hk'; exact hgn.1))).below hb12
        have hin2 : In (w1.alloc (.cells #[.int .i64 E.at', .int .i64 E.kind, .slice q m d] 72)) q m d E.mask := hin1.below hb12
        have hVl : w1.heap.size < (w1.alloc (.cells #[.int .i64 E.at', .int .i64 E.kind, .slice q m d] 72)).heap.size := h2.lt
        generalize w1.alloc (.cells #[.int .i64 E.at', .int .i64 E.kind, .slice q m d] 72) = w2 at *
        have hN6 := hN2
        have hB6 := hB2
        have hc6 := hc2
        have hbP6 := hbP2
        have hpg6 := hpg2
        have hV6 := h2
        have hk16 := hk12
        have hend := fun W hW => ends_any r s.nb s.np (.slice (some ⟨g, 0, none⟩) s.nb cr) (.slice ep' el' ec') (s.ops + 1) s.on E q m d W hW HK
        unfold evVal at hend
        clear hk12 hN2 hB2 hc2 hbP2 hpg2 h2 hin2
        generalize hW6 : w2 = W6 at *
        clear hW6
        obtain ⟨V, hV⟩ : ∃ V, w1.heap.size = V := ⟨_, rfl⟩
        rw [hV] at hV6 hVl ⊢
        have tN := hN6
        refine wp_region_noPanic ?_
        refine wp_region_held_drew (S := fun w' => w'.cell? ⟨g, bk * 4, none⟩ = some (.slice (some ⟨gp, 0, none⟩) s.np cap)) (by kernel_rfl) (hB6.drew.cell' p0v) (fun hHeld => ?_)
        refine wpAnyH_take (i := 0) (v := ?_) rfl (by kernel_rfl) (by kernel_rfl) (by kernel_rfl) (fun _ _ _ h => h) (Or.inl ⟨by rfl, ?_⟩) hHeld ?_
        rotate_left
        · intro w' hSw; try dsimp only at hSw
          go_simp; try (with_reducible rfl)
        try simp only [Act.put, List.getElem_toArray, List.getElem_cons_succ, List.getElem_cons_zero, List.setIfInBounds_toArray, List.set_cons_zero, List.set_cons_succ]
        refine wpAnyH_take (i := 1) (v := ?_) rfl (by kernel_rfl) (by kernel_rfl) (by kernel_rfl) (fun _ _ _ h => h) (Or.inl ⟨by rfl, ?_⟩) hHeld ?_
        rotate_left
        · intro w' hSw; try dsimp only at hSw
          go_simp; try (with_reducible rfl)
        try simp only [Act.put, List.getElem_toArray, List.getElem_cons_succ, List.getElem_cons_zero, List.setIfInBounds_toArray, List.set_cons_zero, List.set_cons_succ]
        refine wpAnyH_take (i := 2) (v := ?_) rfl (by kernel_rfl) (by kernel_rfl) (by kernel_rfl) (fun _ _ _ h => h) (Or.inl ⟨by rfl, ?_⟩) hHeld ?_
        rotate_left
        · intro w' hSw; try dsimp only at hSw
          go_simp; try (with_reducible rfl)
        try simp only [Act.put, List.getElem_toArray, List.getElem_cons_succ, List.getElem_cons_zero, List.setIfInBounds_toArray, List.set_cons_zero, List.set_cons_succ]
        refine wpAnyH_take (i := 3) (v := ?_) rfl (by kernel_rfl) (by kernel_rfl) (by kernel_rfl) (fun _ _ _ h => h) (Or.inl ⟨by rfl, ?_⟩) hHeld ?_
        rotate_left
        · intro w' hSw; try dsimp only at hSw
          have z := hSw
          go_simp; try (with_reducible rfl)
        try simp only [Act.put, List.getElem_toArray, List.getElem_cons_succ, List.getElem_cons_zero, List.setIfInBounds_toArray, List.set_cons_zero, List.set_cons_succ]
        refine wpAnyH_take (i := 4) (v := ?_) rfl (by kernel_rfl) (by kernel_rfl) (by kernel_rfl) (fun _ _ _ h => h) (Or.inl ⟨by rfl, ?_⟩) hHeld ?_
        rotate_left
        · intro w' hSw; try dsimp only at hSw
          go_simp; try (with_reducible rfl)
        try simp only [Act.put, List.getElem_toArray, List.getElem_cons_succ, List.getElem_cons_zero, List.setIfInBounds_toArray, List.set_cons_zero, List.set_cons_succ]
        refine wpAnyH_ready (rs := [5]) (by kernel_rfl) (by simp) ?_
        refine AllReadyH.cons rfl (fun K hK => ?_) AllReadyH.nil
        rw [if_pos (by rfl)]
        refine wp_load_mid 46 (.tmp 7) rfl w.heap.size 0 rfl (vals x) _ (hN6.drew.range 0 288 _ (by rw [List.drop_zero, List.take_of_length_le (by rw [vals_length, hx.1]; exact Nat.le_refl _)])) Try.underlying46 rfl (sizeP hx.1) ?_
        refine hK.out _ _ hHeld (fun hHeld => ?_)
        clear hK K
        try simp only [Act.put, List.getElem_toArray, List.getElem_cons_succ, List.getElem_cons_zero, List.setIfInBounds_toArray, List.set_cons_zero, List.set_cons_succ]
        refine wpAnyH_take (i := 6) (v := ?_) rfl (by kernel_rfl) (by kernel_rfl) (by kernel_rfl) (fun _ _ _ h => h) (Or.inl ⟨by rfl, ?_⟩) hHeld ?_
        rotate_left
        · intro w' hSw; try dsimp only at hSw
          go_simp; try (with_reducible rfl)
        try simp only [Act.put, List.getElem_toArray, List.getElem_cons_succ, List.getElem_cons_zero, List.setIfInBounds_toArray, List.set_cons_zero, List.set_cons_succ]
        refine wpAnyH_ready (rs := [7]) (by kernel_rfl) (by simp) ?_
        refine AllReadyH.cons rfl (fun K hK => ?_) AllReadyH.nil
        rw [if_pos (by rfl)]
        refine wp_store_blk 46 (.tmp 50) (.tmp 49) rfl gp (pk * 288) (vals x) ?_ rfl hbP6.drew (by rw [vals_length, hx.1]; omega) (sizeP hx.1) (vals_one _) ?_
        · rfl
        intro w7 h7 ht7
        rw [vals_length, hx.1] at h7
        refine hK.out _ _ ((hB6.drew.turned ht7 (fun e => hgn.2 e.symm)).cell' p0v) (fun hHeld => ?_)
        clear hK K
        try simp only [Act.put, List.getElem_toArray, List.getElem_cons_succ, List.getElem_cons_zero, List.setIfInBounds_toArray, List.set_cons_zero, List.set_cons_succ]
        refine wpAnyH_done (by kernel_rfl) ?_ _
        refine NoPanic.normal ?_
        clear hHeld
        have hB7 : Blk w7 g 87 BC0 := hB6.drew.turned ht7 (fun e => hgn.2 e.symm)
        have hV7 := hV6.drew.turned ht7 (by omega)
        have hc7 := hc6.drew.turned ht7 (fun e => hgn.1 e.symm)
        have hP6 : PagesIn W6.drew (.slice (some ⟨gp, 0, none⟩) s.np cap) (allP s.np K) := by have := hpg6.below (Below.refl _ _).drew; rwa [hv] at this
        have hP7 := hP6.put (p := pk) (by rw [hlen]; exact hpk) hx hbP6.drew h7
        rw [← hv] at hP7
        have hk7 : Keep (fun k => k = gp) W6 w7 := (Keep.refl _ _).drew.trans (Keep.of_turned (S := fun k => k = gp) ht7 rfl) (fun _ _ e => e)
        have c7 := hB7.cell' p2
        have f7 := hB7.frozen (bk * 4 + 2)
        have m0 := hV7.cell' (i := 0) rfl
        have m1 := hV7.cell' (i := 1) rfl
        have m2 := hV7.cell' (i := 2) rfl
        have hbw1 : g ≠ V := by omega
        clear h7 ht7 hP6 hN6 tN
        go_wp2_with (go_at_call 60; refine (hend _ (hc7.setOther _ _ h.ne)).mono ?_; rintro e w9 ⟨rfl, hc9, hk9⟩)
        go_ret
        rw [← hok] at hc9
        exact ⟨rfl, rprog_end HRS.out hbk hk hcell0 hl0 hnext hpk hkw1 he1 hk16 hk7 hgp hB7 hP7 hk9 hc9⟩
      · have e3 : tornX x E = maskL x E.mask := if_neg hk0
        rw [e3]
        clear e3
        obtain ⟨X, hX⟩ : ∃ X, maskL x E.mask = X := ⟨_, rfl⟩
        rw [hX]
        have HXM : Hid (maskL x E.mask = X) := hX
        clear hX
        have hkn : (E.kind != 0) = true := by simpa using hk0
        go_enter Try.func44, Try.ntmps44
        go_upto_region 9 with (first
          | (go_at_call 57; refine hcan.mono ?_; rintro e w' ⟨rfl, rfl⟩)
          | (go_at_call 58; refine hbeg.mono ?_; rintro e w1 ⟨q, m, d, rfl, hin1, hq1, hk1, ep', el', ec', hc1, he1⟩; clear hbeg hcan; have hk1s := hk1.size))
        have h2 : Blk (w1.alloc (.cells #[.int .i64 E.at', .int .i64 E.kind, .slice q m d] 72)) w1.heap.size 72 [.int .i64 E.at', .int .i64 E.kind, .slice q m d] := Blk.new' w1 72 #[.int .i64 E.at', .int .i64 E.kind, .slice q m d]
        have hb12 := below_alloc w1 (.cells #[.int .i64 E.at', .int .i64 E.kind, .slice q m d] 72)
        have hkw1 : Keep (fun k => k = r) w w1 := (Keep.of_below hbel).trans hk1 (fun _ _ e => e)
        have hk12 : Keep (fun k => w.heap.size ≤ k) w1 (w1.alloc (.cells #[.int .i64 E.at', .int .i64 E.kind, .slice q m d] 72)) := Keep.of_below hb12
        have hN2 := (hN0.keep hk1 (by omega)).alloc (.cells #[.int .i64 E.at', .int .i64 E.kind, .slice q m d] 72)
        have hB2 := (hB.keep hk1 (fun e => h.ne e.symm)).alloc (.cells #[.int .i64 E.at', .int .i64 E.kind, .slice q m d] 72)
        have hc2 := hc1.alloc (.cells #[.int .i64 E.at', .int .i64 E.kind, .slice q m d] 72)
        have hbP2 := (hbP.keep hk1 hgn.1).alloc (.cells #[.int .i64 E.at', .int .i64 E.kind, .slice q m d] 72)
        have hpg2 : PagesIn (w1.alloc (.cells #[.int .i64 E.at', .int .i64 E.kind, .slice q m d] 72)) (PR bk) (allP s.np K) := (hpgs.same (w' := w1) (fun k hk' => hk1.block k (hpgs.lt hk') (by rw [hgp] at hk'; cases hk'; exact hgn.1))).below hb12
        have hin2 : In (w1.alloc (.cells #[.int .i64 E.at', .int .i64 E.kind, .slice q m d] 72)) q m d E.mask := hin1.below hb12
        have hVl : w1.heap.size < (w1.alloc (.cells #[.int .i64 E.at', .int .i64 E.kind, .slice q m d] 72)).heap.size := h2.lt
        generalize w1.alloc (.cells #[.int .i64 E.at', .int .i64 E.kind, .slice q m d] 72) = w2 at *
        have hx' := isP_mask hx hin1.byte
        have hb3 := below_alloc w2 (.cells (vals x).toArray 46)
        have hm3 := masked_one w2.heap.size x q m d E.mask _ hx (Blk.new w2 46 (vals x)) (hin2.below hb3)
        rw [HXM.out] at hx' hm3
        go_upto_region 10 with (first
          | (guard_target = wpList _ _ _ (Oper.mk _ (Op.load 46 (Operand.tmp 7)) _ _ _ _ :: _) _ _; refine wpList_load_mid rfl 46 (.tmp 7) rfl _ _ rfl (vals x) _ (hN2.range 0 288 _ (by rw [List.drop_zero, List.take_of_length_le (by rw [vals_length, hx.1]; exact Nat.le_refl _)])) Try.underlying46 rfl (sizeP hx.1) ?_)
          | (guard_target = wpList _ _ _ (Oper.mk _ (Op.buildSlice _ _ _) _ _ _ _ :: _) _ _; refine wpList_buildPage rfl (.tmp 37) rfl x rfl hx.1 ?_; have e2' := (h2.kept hb3).cell' (i := 2) rfl)
          | (go_at_call 59; refine hm3.mono ?_; rintro e w5 ⟨g5, cap5, cur5, rfl, hB5, hc5, ht5, hg5, hb5⟩; have hc5i : (0 : Int) < (1 : Int) := by omega)
          | (guard_target = wpList _ _ _ (Oper.mk _ (Op.load 46 (Operand.tmp 42)) _ _ _ _ :: _) _ _; refine wpList_load_mid rfl 46 (.tmp 42) rfl _ _ rfl (vals X) _ (hB5.range 0 288 _ (by rw [List.drop_zero]; exact ht5)) Try.underlying46 rfl (sizeP hx'.1) ?_)
          | (guard_target = wpList _ _ _ (Oper.mk _ (Op.store 46 _ _) _ _ _ _ :: _) _ _; refine wpList_store_blk rfl 46 (.tmp 7) (.tmp 43) rfl _ _ (vals X) rfl rfl ((hN2.kept hb3).kept hb5) (by rw [vals_length, vals_length, hx'.1, hx.1]; exact Nat.le_refl _) (sizeP hx'.1) (vals_one _) ?_; intro w6 h6 ht6; rw [whole_row (by rw [vals_length, vals_length, hx'.1, hx.1])] at h6))
        have hb25 := hb3.trans (hb5.mono hb3.size)
        have hN6 := h6
        have hB6 := (hB2.kept hb25).turned ht6 (by omega)
        have hc6 := (hc2.kept hb25).turned ht6 (by omega)
        have hbP6 := (hbP2.kept hb25).turned ht6 (by omega)
        have hpg6 : PagesIn w6 (PR bk) (allP s.np K) := (hpg2.below hb25).same (fun k hk' => ht6.block k (by rw [hgp] at hk'; cases hk'; omega))
        have hV6 := (h2.kept hb25).turned ht6 (by omega)
        have hk16 : Keep (fun k => w.heap.size ≤ k) w1 w6 := (hk12.trans (Keep.of_below (S := fun _ => False) hb25) (fun _ _ e => e.elim)).trans (Keep.of_turned (S := fun k => k = w.heap.size) ht6 rfl) (fun j hj e => by omega)
        have hend := fun W hW => ends_any r s.nb s.np (.slice (some ⟨g, 0, none⟩) s.nb cr) (.slice ep' el' ec') (s.ops + 1) s.on E q m d W hW HK
        unfold evVal at hend
        clear hk12 hN2 hB2 hc2 hbP2 hpg2 h2 hin2 hb3 hb5 hb25 hB5 ht5 h6 ht6
        generalize hW6 : w6 = W6 at *
        clear hW6
        obtain ⟨V, hV⟩ : ∃ V, w1.heap.size = V := ⟨_, rfl⟩
        rw [hV] at hV6 hVl ⊢
        have tN := hN6
        refine wp_region_noPanic ?_
        refine wp_region_held_drew (S := fun w' => w'.cell? ⟨g, bk * 4, none⟩ = some (.slice (some ⟨gp, 0, none⟩) s.np cap)) (by kernel_rfl) (hB6.drew.cell' p0v) (fun hHeld => ?_)
        refine wpAnyH_take (i := 0) (v := ?_) rfl (by kernel_rfl) (by kernel_rfl) (by kernel_rfl) (fun _ _ _ h => h) (Or.inl ⟨by rfl, ?_⟩) hHeld ?_
        rotate_left
        · intro w' hSw; try dsimp only at hSw
          go_simp; try (with_reducible rfl)
        try simp only [Act.put, List.getElem_toArray, List.getElem_cons_succ, List.getElem_cons_zero, List.setIfInBounds_toArray, List.set_cons_zero, List.set_cons_succ]
        refine wpAnyH_take (i := 1) (v := ?_) rfl (by kernel_rfl) (by kernel_rfl) (by kernel_rfl) (fun _ _ _ h => h) (Or.inl ⟨by rfl, ?_⟩) hHeld ?_
        rotate_left
        · intro w' hSw; try dsimp only at hSw
          go_simp; try (with_reducible rfl)
        try simp only [Act.put, List.getElem_toArray, List.getElem_cons_succ, List.getElem_cons_zero, List.setIfInBounds_toArray, List.set_cons_zero, List.set_cons_succ]
        refine wpAnyH_take (i := 2) (v := ?_) rfl (by kernel_rfl) (by kernel_rfl) (by kernel_rfl) (fun _ _ _ h => h) (Or.inl ⟨by rfl, ?_⟩) hHeld ?_
        rotate_left
        · intro w' hSw; try dsimp only at hSw
          go_simp; try (with_reducible rfl)
        try simp only [Act.put, List.getElem_toArray, List.getElem_cons_succ, List.getElem_cons_zero, List.setIfInBounds_toArray, List.set_cons_zero, List.set_cons_succ]
        refine wpAnyH_take (i := 3) (v := ?_) rfl (by kernel_rfl) (by kernel_rfl) (by kernel_rfl) (fun _ _ _ h => h) (Or.inl ⟨by rfl, ?_⟩) hHeld ?_
        rotate_left
        · intro w' hSw; try dsimp only at hSw
          have z := hSw
          go_simp; try (with_reducible rfl)
        try simp only [Act.put, List.getElem_toArray, List.getElem_cons_succ, List.getElem_cons_zero, List.setIfInBounds_toArray, List.set_cons_zero, List.set_cons_succ]
        refine wpAnyH_take (i := 4) (v := ?_) rfl (by kernel_rfl) (by kernel_rfl) (by kernel_rfl) (fun _ _ _ h => h) (Or.inl ⟨by rfl, ?_⟩) hHeld ?_
        rotate_left
        · intro w' hSw; try dsimp only at hSw
          go_simp; try (with_reducible rfl)
        try simp only [Act.put, List.getElem_toArray, List.getElem_cons_succ, List.getElem_cons_zero, List.setIfInBounds_toArray, List.set_cons_zero, List.set_cons_succ]
        refine wpAnyH_ready (rs := [5]) (by kernel_rfl) (by simp) ?_
        refine AllReadyH.cons rfl (fun K hK => ?_) AllReadyH.nil
        rw [if_pos (by rfl)]
        refine wp_load_mid 46 (.tmp 7) rfl w.heap.size 0 rfl (vals X) _ (hN6.drew.range 0 288 _ (by rw [List.drop_zero, List.take_of_length_le (by rw [vals_length, hx'.1]; exact Nat.le_refl _)])) Try.underlying46 rfl (sizeP hx'.1) ?_
        refine hK.out _ _ hHeld (fun hHeld => ?_)
        clear hK K
        try simp only [Act.put, List.getElem_toArray, List.getElem_cons_succ, List.getElem_cons_zero, List.setIfInBounds_toArray, List.set_cons_zero, List.set_cons_succ]
        refine wpAnyH_take (i := 6) (v := ?_) rfl (by kernel_rfl) (by kernel_rfl) (by kernel_rfl) (fun _ _ _ h => h) (Or.inl ⟨by rfl, ?_⟩) hHeld ?_
        rotate_left
        · intro w' hSw; try dsimp only at hSw
          go_simp; try (with_reducible rfl)
        try simp only [Act.put, List.getElem_toArray, List.getElem_cons_succ, List.getElem_cons_zero, List.setIfInBounds_toArray, List.set_cons_zero, List.set_cons_succ]
        refine wpAnyH_ready (rs := [7]) (by kernel_rfl) (by simp) ?_
        refine AllReadyH.cons rfl (fun K hK => ?_) AllReadyH.nil
        rw [if_pos (by rfl)]
        refine wp_store_blk 46 (.tmp 50) (.tmp 49) rfl gp (pk * 288) (vals X) ?_ rfl hbP6.drew (by rw [vals_length, hx'.1]; omega) (sizeP hx'.1) (vals_one _) ?_
        · rfl
        intro w7 h7 ht7
        rw [vals_length, hx'.1] at h7
        refine hK.out _ _ ((hB6.drew.turned ht7 (fun e => hgn.2 e.symm)).cell' p0v) (fun hHeld => ?_)
        clear hK K
        try simp only [Act.put, List.getElem_toArray, List.getElem_cons_succ, List.getElem_cons_zero, List.setIfInBounds_toArray, List.set_cons_zero, List.set_cons_succ]
        refine wpAnyH_done (by kernel_rfl) ?_ _
        refine NoPanic.normal ?_
        clear hHeld
        have hB7 : Blk w7 g 87 BC0 := hB6.drew.turned ht7 (fun e => hgn.2 e.symm)
        have hV7 := hV6.drew.turned ht7 (by omega)
        have hc7 := hc6.drew.turned ht7 (fun e => hgn.1 e.symm)
        have hP6 : PagesIn W6.drew (.slice (some ⟨gp, 0, none⟩) s.np cap) (allP s.np K) := by have := hpg6.below (Below.refl _ _).drew; rwa [hv] at this
        have hP7 := hP6.put (p := pk) (by rw [hlen]; exact hpk) hx' hbP6.drew h7
        rw [← hv] at hP7
        have hk7 : Keep (fun k => k = gp) W6 w7 := (Keep.refl _ _).drew.trans (Keep.of_turned (S := fun k => k = gp) ht7 rfl) (fun _ _ e => e)
        have c7 := hB7.cell' p2
        have f7 := hB7.frozen (bk * 4 + 2)
        have m0 := hV7.cell' (i := 0) rfl
        have m1 := hV7.cell' (i := 1) rfl
        have m2 := hV7.cell' (i := 2) rfl
        have hbw1 : g ≠ V := by omega
        clear h7 ht7 hP6 hN6 tN
        go_wp2_with (go_at_call 60; refine (hend _ (hc7.setOther _ _ h.ne)).mono ?_; rintro e w9 ⟨rfl, hc9, hk9⟩)
        go_ret
        rw [← hok] at hc9
        exact ⟨rfl, rprog_end HRS.out hbk hk hcell0 hl0 hnext hpk hkw1 he1 hk16 hk7 hgp hB7 hP7 hk9 hc9⟩
  · obtain ⟨e1, e2⟩ := prog_cannot hc x
    rw [e1, e2]
    clear e1 e2
    have hc2 : (canE s b p != 0) = true := by simpa using hc
    generalize canE s b p = ce at *
    go_enter Try.func44, Try.ntmps44
    go_wp2_with (go_at_call 57; refine hcan.mono ?_; rintro e w' ⟨rfl, rfl⟩)
    go_ret
    exact ⟨rfl, RAft.refused h hbel⟩
end Go.Proofs.Ythafcnilhloldaa
