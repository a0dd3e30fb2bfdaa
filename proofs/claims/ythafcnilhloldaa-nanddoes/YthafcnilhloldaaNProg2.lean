/-
  What Program does: the walk.
-/
import Derived.Test.YthafcnilhloldaaNProg
namespace Go.Proofs.Ythafcnilhloldaa
open Go.RowKit Go.Shelf
/-- What a call on a chip leaves: the chip in its new state, all else as it was. -/
def After (w w' : World) (c : Nat) (s s' : St) (bb : Nat) (PV : Nat → Value) : Prop :=
  ∃ PV', ChipIn w' c s' bb PV' ∧ (∀ k, fpOf c bb PV' s.nb k → fpN c bb PV s.nb w.heap.size k) ∧ Keep (fpOf c bb PV s.nb) w w'
theorem After.refused {w w' : World} {c : Nat} {s : St} {bb : Nat} {PV : Nat → Value} (h : ChipIn w c s bb PV) (hb : Below w.heap.size w w') : After w w' c s s bb PV := ⟨PV, h.below hb, fun _ e => .inl e, Keep.of_below hb⟩
theorem torn_any (Bs : Nat) (v : Value) (ps : List PageT) (q : Option Addr) (m d : Nat) (ms : List Nat) (w : World) (hBs : w.cell? ⟨Bs, 0, none⟩ = some v) (hp : PagesIn w v (ps.map (·.1))) (hm : In w q m d ms) (hl : ps.length ≤ 32) :
    Calls Try.prog 40 #[.func (.func 56) #[] #[.pointer (some ⟨Bs, 0, none⟩)], .slice q m d] w fun e w' => ∃ g, e = .returned (.slice (some ⟨g, 0, none⟩) ps.length ps.length) ∧ w.heap.size ≤ g ∧ Blk w' g 46 (vals (maskL (ps.map (·.1)).flatten ms)) ∧ Below w.heap.size w w' :=
  (callsIn_wide (n := 4)).1 (torn_in 4 (Nat.le_refl _) Bs v ps q m d ms w hBs hp hm hl)
theorem pages_one {W : World} {g : Nat} {x : List Nat} (h : Blk W g 46 (vals x)) (hx : IsP x) : PagesIn W (.slice (some ⟨g, 0, none⟩) 1 1) [x] :=
  ⟨⟨by rw [vals_length]; simp [hx.1], .inr ⟨g, 1, (vals x).toArray, rfl, Nat.zero_le _, h, Nat.le_refl _, by unfold maxLen; omega, by rw [List.size_toArray, vals_length, hx.1], by
    have e : [x].flatten = x := by simp
    rw [e, List.take_of_length_le (by simp [vals_length, hx.1])]⟩⟩, fun p hp => by rw [List.mem_singleton.1 hp]; exact hx⟩
theorem torn_one (Bs : Nat) (v : Value) (x : List Nat) (q : Option Addr) (m d : Nat) (ms : List Nat) (w : World) (hx : IsP x) (hBs : w.cell? ⟨Bs, 0, none⟩ = some v) (hp : PagesIn w v [x]) (hm : In w q m d ms) :
    Calls Try.prog 40 #[.func (.func 56) #[] #[.pointer (some ⟨Bs, 0, none⟩)], .slice q m d] w fun e w' => ∃ g, e = .returned (.slice (some ⟨g, 0, none⟩) 1 1) ∧ w.heap.size ≤ g ∧ Blk w' g 46 (vals (maskL x ms)) ∧ Below w.heap.size w w' := by
  have := torn_any Bs v [⟨x, hx⟩] q m d ms w hBs hp hm (by simp)
  refine this.mono ?_
  rintro e w' ⟨g, rfl, h1, h2, h3⟩
  refine ⟨g, rfl, h1, ?_, h3⟩
  simpa using h2
theorem isP_mask {x ms : List Nat} (hx : IsP x) (hm : ∀ y ∈ ms, y < 256) : IsP (maskL x ms) := ⟨by rw [maskL_length]; exact hx.1, maskL_byte hx.2 hm⟩
set_option maxRecDepth 100000 in
set_option maxHeartbeats 1000000 in
theorem prog_refused (c : Nat) (s : St) (bb : Nat) (PV : Nat → Value) (b p : Int) (x : List Nat) (w : World) (h : ChipIn w c s bb PV) (h0 : ¬ reachE s.nb s.np s.on b p = 0) :
    Calls Try.prog 16 #[.pointer (some ⟨c, 0, none⟩), .int .i64 b, .int .i64 p, .agg (vals x).toArray] w fun e w' => e = .returned (.int .i64 (progE s b p)) ∧ After w w' c s (progSt s b p x) bb PV := by
  obtain ⟨ep, el, ec, hc, he⟩ := h.chip
  have hbel := below_alloc w (.cells (vals x).toArray 46)
  have hc' := hc.kept hbel
  have hr := reach_any c _ s.nb s.np s.cr s.on b p (w.alloc (.cells (vals x).toArray 46)) (by have := h.nbl; omega) (hc'.cell' (i := 2) rfl) (hc'.cell' (i := 1) rfl) (hc'.cell' (i := 5) rfl)
  rw [show progE s b p = reachE s.nb s.np s.on b p from if_neg h0, show progSt s b p x = s from if_neg h0]
  generalize reachE s.nb s.np s.on b p = r at *
  have h0' : (r == 0) = false := by simpa using h0
  go_enter Try.func16, Try.ntmps16
  go_wp2_with (go_at_call 37; refine hr.mono ?_; rintro e w' ⟨rfl, rfl⟩)
  go_ret
  exact ⟨rfl, After.refused h hbel⟩
/-- A store of a whole value into a block that is known whole: the operation. -/
theorem wp_store_blk {op : Oper} {a : Act} {w : World} {K : Act → World → Prop} {Q : Exit → Act → World → Prop} (ty : TypeId) (x y : Operand) (ho : op.op = .store ty x y)
    (g o : Nat) (xs : List Value) (hx : a.eval x = .pointer (some ⟨g, o, none⟩)) (hy : a.eval y = .agg xs.toArray) {t : TypeId} {cs : List Value} (h : Blk w g t cs) (hle : o + xs.length ≤ cs.length)
    (hi : (Try.prog.info? ty).map (·.size) = some xs.length) (h1 : ∀ v ∈ xs, v.oneCell' = true)
    (hK : ∀ w', Blk w' g t (cs.take o ++ xs ++ cs.drop (o + xs.length)) → Turned w w' g → K (a.put op.dst undef) w') : op.wp Try.prog a w K Q := by
  have hst := h.store o xs hle h1
  have hrun : (storeVar ty ⟨g, o, none⟩ (.agg xs.toArray)).run Try.prog w = .ok () (w.setRow g (cs.take o ++ xs ++ cs.drop (o + xs.length)).toArray) := by
    cases hq : Try.prog.info? ty with
    | none => simp [hq] at hi
    | some i =>
      have hs : xs.length = i.size := by simp [hq] at hi; omega
      simp only [storeVar, sizeOf, typeInfo, Sem.run_bind, Value.cells]
      simp [hs, hq, hst]
  unfold Oper.wp execOp
  simp only [ho, hx, hy, Instr.storeAt, Instr.sureAddr, Sem.run_bind, Sem.run_pure, Result.andThen_ok, hrun]
  exact hK _ (h.setRow _) (Turned.setRow _ _ _)
theorem putP_length (ps : List (List Nat)) (n : Nat) (x : List Nat) (h : ps.length ≤ n) : (putP ps n x).length = n + 1 := by
  unfold putP; rw [List.length_append, List.length_append, List.length_replicate, List.length_singleton]; omega
theorem prog_end {w w1 w2 w3 : World} {c : Nat} {s : St} {bb : Nat} {PV : Nat → Value} {bk pk : Nat} {K : BlkS} {x' : List Nat} {v' : Value} {BC : List Value} {ep : Option Addr} {el ec : Nat} (h : ChipIn w c s bb PV) (hbk : bk < s.nb) (hK : s.bl[bk]? = some K)
    (hcell : ∀ i b, s.bl[i]? = some b → BC[i * 4]? = some (PV i) ∧ BC[i * 4 + 1]? = some (.int .i64 (b.wear : Int)) ∧ BC[i * 4 + 2]? = some (.int .i64 (b.next : Int)) ∧ BC[i * 4 + 3]? = some (.bool b.bad)) (hl : BC.length = s.cr * 4) (hbb : bb < w.heap.size)
    (hpk : K.next ≤ pk) (hpk2 : pk < s.np) (hk1 : Keep (fun k => k = c) w w1) (hc1 : Blk w1 c 82 (chipCells s.nb s.np (.slice (some ⟨bb, 0, none⟩) s.nb s.cr) (.slice ep el ec) (s.ops + 1) (onEv s.ev (s.ops + 1) s.on)))
    (he1 : EvsIn (fun k => fpN c bb PV s.nb w.heap.size k ∨ s.z k) w1 ep el ec (restEv s.ev (s.ops + 1))) (hb2 : Keep (fun k => k = w.heap.size) w1 w2) (hB3 : Blk w3 bb 78 (BC.set (bk * 4) v')) (hp3 : PagesIn w3 v' (putP K.pages pk x')) (hk3 : Keep (fun k => k = bb ∨ (PV bk).ownBlock = some k) w2 w3)
    (hfr3 : ∀ k, v'.ownBlock = some k → (PV bk).ownBlock = some k ∨ w2.heap.size ≤ k) :
    After w (w3.setCell ⟨bb, bk * 4 + 1 + 1, none⟩ (.int .i64 ((pk : Int) + 1))) c s (stepSt s bk { K with pages := putP K.pages pk x', next := pk + 1 }) bb PV := by
  have hcc : c < w.heap.size := by obtain ⟨_, _, _, hc0, _⟩ := h.chip; exact hc0.lt
  have s1 := hk1.size
  have s2 := hb2.size
  have s3 := hk3.size
  have hlim := h.lim K (List.mem_of_getElem? hK)
  obtain ⟨q0, q1, q2, q3⟩ := hcell bk K hK
  have hler := h.ler
  have hnb : bk * 4 + 3 < BC.length := by rw [hl]; omega
  have hkw3 : Keep (fun k => k = c ∨ k = bb ∨ (PV bk).ownBlock = some k) w w3 := ((hk1.mono (fun k _ e => .inl e)).fresh hb2 (fun _ _ e => by omega)).trans hk3 (fun j _ e => .inr e)
  have hkf : Keep (fun k => k = c ∨ k = bb ∨ (PV bk).ownBlock = some k) w (w3.setCell ⟨bb, bk * 4 + 1 + 1, none⟩ (.int .i64 ((pk : Int) + 1))) := hkw3.setCell _ _ (.inr (.inl rfl))
  have hfr : ∀ k, v'.ownBlock = some k → (PV bk).ownBlock = some k ∨ w.heap.size ≤ k := fun k hk => (hfr3 k hk).imp id (fun e => by omega)
  have hvb : ∀ k, v'.ownBlock = some k → k ≠ bb := fun k hk => by
    rcases hfr k hk with e | e
    · exact (h.nec bk hbk k e).2
    · omega
  have hk13 : Keep (fpN c bb PV s.nb w.heap.size) w1 (w3.setCell ⟨bb, bk * 4 + 1 + 1, none⟩ (.int .i64 ((pk : Int) + 1))) := by
    refine Keep.setCell ?_ _ _ (.inl (.inr (.inl rfl)))
    refine Keep.trans (hb2.mono (fun k _ e => .inr (by omega))) hk3 ?_
    rintro j _ (e | e)
    · exact .inl (.inr (.inl e))
    · exact .inl (.inr (.inr ⟨bk, hbk, e⟩))
  have hchip := (((hc1.keep hb2 (by omega)).keep hk3 (fun e => e.elim (fun e => h.ne e) (fun e => (h.nec bk hbk c e).1 rfl))).setOther ⟨bb, bk * 4 + 1 + 1, none⟩ (.int .i64 ((pk : Int) + 1)) h.ne)
  have hBf := hB3.set (bk * 4 + 1 + 1) (.int .i64 ((pk : Int) + 1))
  obtain ⟨hci, hfp⟩ := h.step (K' := { K with pages := putP K.pages pk x', next := pk + 1 }) hbk hchip (he1.keep hk13 (fun _ _ e => .inl e)) hBf (by rw [List.length_set, List.length_set, hl])
    (by
      refine ⟨?_, ?_, ?_, ?_⟩
      · rw [List.getElem?_set_ne (by omega), List.getElem?_set_self (by omega)]
      · rw [List.getElem?_set_ne (by omega), List.getElem?_set_ne (by omega)]; exact q1
      · rw [List.getElem?_set_self (by rw [List.length_set]; omega)]; rfl
      · rw [List.getElem?_set_ne (by omega), List.getElem?_set_ne (by omega)]; exact q3)
    (by
      intro j b hj hb
      obtain ⟨r0, r1, r2, r3⟩ := hcell j b hb
      refine ⟨?_, ?_, ?_, ?_⟩
      · rw [List.getElem?_set_ne (by omega), List.getElem?_set_ne (by omega)]; exact r0
      · rw [List.getElem?_set_ne (by omega), List.getElem?_set_ne (by omega)]; exact r1
      · rw [List.getElem?_set_ne (by omega), List.getElem?_set_ne (by omega)]; exact r2
      · rw [List.getElem?_set_ne (by omega), List.getElem?_set_ne (by omega)]; exact r3)
    (hp3.same (fun k hk => heap_setCell_other _ _ _ _ (hvb k hk))) hfr hkf
    ⟨by show (putP K.pages pk x').length ≤ pk + 1; rw [putP_length _ _ _ (by omega)]; exact Nat.le_refl _, by show pk + 1 ≤ s.np; omega, by show K.wear ≤ s.ops + 1; omega⟩
  refine ⟨_, hci, hfp, hkf.mono ?_⟩
  rintro k _ (e | e | e)
  · exact .inl e
  · exact .inr (.inl e)
  · exact .inr (.inr ⟨bk, hbk, e⟩)
set_option linter.unusedSimpArgs false in
set_option linter.unusedSimpArgs false in
set_option linter.unusedSimpArgs false in
set_option linter.unusedSimpArgs false in
set_option linter.unusedSimpArgs false in
set_option maxRecDepth 100000 in
set_option maxHeartbeats 2000000 in
theorem prog_any (c : Nat) (s : St) (bb : Nat) (PV : Nat → Value) (b p : Int) (x : List Nat) (w : World) (h : ChipIn w c s bb PV) (hx : IsP x) (ho : s.ops < 4611686018427387904) :
    Calls Try.prog 16 #[.pointer (some ⟨c, 0, none⟩), .int .i64 b, .int .i64 p, .agg (vals x).toArray] w fun e w' => e = .returned (.int .i64 (progE s b p)) ∧ After w w' c s (progSt s b p x) bb PV := by
  by_cases h0 : reachE s.nb s.np s.on b p = 0
  · obtain ⟨ep, el, ec, hc, he⟩ := h.chip
    have hbel := below_alloc w (.cells (vals x).toArray 46)
    have hc' := hc.kept hbel
    have hr := reach_any c _ s.nb s.np s.cr s.on b p (w.alloc (.cells (vals x).toArray 46)) (by have := h.nbl; omega) (hc'.cell' (i := 2) rfl) (hc'.cell' (i := 1) rfl) (hc'.cell' (i := 5) rfl)
    rw [h0] at hr
    obtain ⟨bk, pk, rfl, rfl, hbk, hpk, hon⟩ := reach_ok h0
    obtain ⟨BC, hB, hl, hcell⟩ := h.blks
    obtain ⟨K, hK⟩ := h.get bk hbk
    obtain ⟨q0, q1, q2, q3⟩ := hcell bk K hK
    have hB' := hB.kept hbel
    have hc2 := hc'.cell' (i := 2) rfl
    have d0 := hB'.cell' q0
    have d2 := hB'.cell' q2
    have d3 := hB'.cell' q3
    have hlim := h.lim K (List.mem_of_getElem? hK)
    by_cases hbad : K.bad = true
    · have e1 : progE s bk pk = 23 := by unfold progE; rw [if_pos h0]; simp [hK, hbad]
      have e2 : progSt s bk pk x = s := by unfold progSt; rw [if_pos h0]; simp [hK, hbad]
      rw [e1, e2]
      rw [hbad] at d3
      clear e1 e2 h0
      go_enter Try.func16, Try.ntmps16
      go_wp2_with (go_at_call 37; refine hr.mono ?_; rintro e w' ⟨rfl, rfl⟩)
      go_ret
      exact ⟨rfl, After.refused h hbel⟩
    · have hbad' : K.bad = false := by simpa using hbad
      rw [hbad'] at d3
      by_cases hd : pk < K.next
      · have e1 : progE s bk pk = 24 := by unfold progE; rw [if_pos h0]; simp [hK, hbad', hd]
        have e2 : progSt s bk pk x = s := by unfold progSt; rw [if_pos h0]; simp [hK, hbad', hd]
        rw [e1, e2]
        clear e1 e2 h0
        go_enter Try.func16, Try.ntmps16
        go_wp2_with (go_at_call 37; refine hr.mono ?_; rintro e w' ⟨rfl, rfl⟩)
        go_ret
        exact ⟨rfl, After.refused h hbel⟩
      · have e1 : progE s bk pk = outE (nextEv s.ev (s.ops + 1)).kind := by unfold progE; rw [if_pos h0]; simp [hK, hbad', hd]
        have e2 : progSt s bk pk x = stepSt s bk { K with pages := putP K.pages pk (tornX x (nextEv s.ev (s.ops + 1))), next := pk + 1 } := by unfold progSt; rw [if_pos h0]; simp [hK, hbad', hd]
        rw [e1, e2]
        have hEv := (he.mono (T := fun k => fpN c bb PV s.nb w.heap.size k ∨ s.z k) (fun k hk e => e.elim (fun e => e.elim .inl (fun e => by omega)) .inr)).keep (T := fun _ => False) (Keep.of_below hbel) (fun _ _ e => e.elim)
        have hbeg := begin_any c s.nb s.np _ ep el ec s.ops s.on s.ev (fun k => fpN c bb PV s.nb w.heap.size k ∨ s.z k) _ hc' hEv (.inl (.inl (.inl rfl))) ho
        clear e1 e2 h0
        have hN0 := Blk.new w 46 (vals x)
        have hcl := hc.lt
        have hbl := hB.lt
        have hpl := h.npl
        have hpb : ∀ k, (PV bk).ownBlock = some k → k < w.heap.size := fun k hk => (h.pg bk K hK).lt hk
        unfold evVal at hbeg
        generalize nextEv s.ev (s.ops + 1) = E at *
        by_cases hk0 : E.kind = 0
        · have e3 : tornX x E = x := if_pos hk0
          rw [e3]
          have hkd : (E.kind == 0) = true := by simpa using hk0
          have hout := outcome_any 0
          rw [hk0]
          rw [hk0] at hbeg
          go_enter Try.func16, Try.ntmps16
          go_wp2_with (first
            | (go_at_call 37; refine hr.mono ?_; rintro e w' ⟨rfl, rfl⟩)
            | (go_at_call 38; refine hbeg.mono ?_; rintro e w1 ⟨q, m, d, rfl, hin1, hq1, hk1, ep', el', ec', hc1, he1⟩; clear hbeg hr; have hk1' := hk1.size; have hs0 : (w.alloc (.cells (vals x).toArray 46)).heap.size = w.heap.size + 1 := by simp)
            | (guard_target = wpList _ _ _ (Oper.mk _ (Op.load 46 (Operand.tmp 7)) _ _ _ _ :: _) _ _; refine wpList_load_mid rfl 46 (.tmp 7) rfl w.heap.size 0 rfl (vals x) _ (((hN0.keep hk1 (by omega)).alloc _).range 0 288 _ (by rw [List.drop_zero, List.take_of_length_le (by rw [vals_length, hx.1]; exact Nat.le_refl _)])) Try.underlying46 rfl (sizeP hx.1) ?_)
            | (go_at_call 43; refine (put_any bb (bk * 4) pk (PV bk) K.pages x BC _ ((hB'.keep hk1 (fun e => h.ne e.symm)).alloc _) q0 (((h.pg bk K hK).below hbel).same (fun k hk => ?_)) hx ?_ ?_ ?_).mono ?_; (rw [Below.heap_alloc _ _ _ (by have := hpb k hk; omega)]; exact hk1.block k (by have := hpb k hk; omega) (fun e => (h.nec bk hbk k hk).1 e)); omega; omega; (exact fun k hk => (h.nec bk hbk k hk).2); rintro e w3 ⟨⟨u, rfl⟩, v', hB3, hp3, hk3, hfr3⟩; have c3 := hB3.cell' (i := bk * 4 + 2) (by rw [List.getElem?_set_ne (by omega)]; exact q2); have f3 := hB3.frozen (bk * 4 + 2); have hN1 := (Blk.new' w1 72 #[.int .i64 E.at', .int .i64 0, .slice q m d]).keep hk3 (fun e => e.elim (fun e => by omega) (fun e => by have := hpb _ e; omega)); have n1 := hN1.cell' (i := 1) rfl; have hbw1 : bb ≠ w1.heap.size := by omega)
            | (go_at_call 41; refine (hout _).mono ?_; rintro e w' ⟨rfl, rfl⟩))
          go_ret
          refine ⟨rfl, prog_end h hbk hK hcell hl hbl (by omega) hpk ((Keep.of_below hbel).trans hk1 (fun _ _ e => e)) hc1 he1 (Keep.of_below (below_alloc w1 _)) hB3 hp3 hk3 hfr3⟩
        · -- the event
          have e3 : tornX x E = maskL x E.mask := if_neg hk0
          rw [e3]
          have hkd : (E.kind == 0) = false := by simpa using hk0
          have hout := outcome_any E.kind
          go_enter Try.func16, Try.ntmps16
          go_wp2_with (first
            | (go_at_call 37; refine hr.mono ?_; rintro e w' ⟨rfl, rfl⟩)
            | (go_at_call 38; refine hbeg.mono ?_; rintro e w1 ⟨q, m, d, rfl, hin1, hq1, hk1, ep', el', ec', hc1, he1⟩; clear hbeg hr; have hk1' := hk1.size; have hs0 : (w.alloc (.cells (vals x).toArray 46)).heap.size = w.heap.size + 1 := by simp))
          have hx' := isP_mask hx hin1.byte
          have hN2 := (hN0.keep hk1 (by omega)).alloc (.cells #[.int .i64 E.at', .int .i64 E.kind, .slice q m d] 72)
          have hV2 := Blk.new' w1 72 #[.int .i64 E.at', .int .i64 E.kind, .slice q m d]
          have hb2 := below_alloc w1 (.cells #[.int .i64 E.at', .int .i64 E.kind, .slice q m d] 72)
          have hin2 := hin1.below hb2
          generalize hw2 : w1.alloc (.cells #[.int .i64 E.at', .int .i64 E.kind, .slice q m d] 72) = w2 at *
          clear hw2
          have b4 : Below w2.heap.size w2 (((w2.alloc (.cells (vals x).toArray 46)).alloc (.cells #[.slice (some ⟨w2.heap.size, 0, none⟩) 1 1] 58)).drew) := ((((Below.refl _ w2)).alloc (Nat.le_refl _) _).alloc (by simp) _).drew
          have hcV := hV2.cell' (i := 2) rfl
          have hbox4 : ((w2.alloc (.cells (vals x).toArray 46)).alloc (.cells #[.slice (some ⟨w2.heap.size, 0, none⟩) 1 1] 58)).cell? ⟨w2.heap.size + 1, 0, none⟩ = some (.slice (some ⟨w2.heap.size, 0, none⟩) 1 1) := by have := (Boxed.new (w2.alloc (.cells (vals x).toArray 46)) 58 (.slice (some ⟨w2.heap.size, 0, none⟩) 1 1)).cell; rwa [World.size_alloc] at this
          have hvl : w1.heap.size < w2.heap.size := hV2.lt
          refine wp_region_noPanic ?_
          refine wp_region_held_drew (S := fun w' => w'.cell? ⟨w1.heap.size, 2, none⟩ = some (.slice q m d)) (by kernel_rfl) hcV (fun hHeld => ?_)
          refine wpAnyH_take (i := 3) (v := ?_) rfl (by kernel_rfl) (by kernel_rfl) (by kernel_rfl) (fun _ _ _ h => h) (Or.inl ⟨by rfl, ?_⟩) hHeld ?_
          rotate_left
          · intro w hSw; go_simp; try (with_reducible rfl)
          try simp only [Act.put, List.getElem_toArray, List.getElem_cons_succ, List.getElem_cons_zero, List.setIfInBounds_toArray, List.set_cons_zero, List.set_cons_succ]
          refine wpAnyH_take (i := 4) (v := ?_) rfl (by kernel_rfl) (by kernel_rfl) (by kernel_rfl) (fun _ _ _ h => h) (Or.inl ⟨by rfl, ?_⟩) hHeld ?_
          rotate_left
          · intro w hSw; go_simp; try (with_reducible rfl)
          try simp only [Act.put, List.getElem_toArray, List.getElem_cons_succ, List.getElem_cons_zero, List.setIfInBounds_toArray, List.set_cons_zero, List.set_cons_succ]
          refine wpAnyH_ready (rs := [0]) (by kernel_rfl) (by simp) ?_
          refine AllReadyH.cons rfl (fun K hK => ?_) AllReadyH.nil
          rw [if_pos (by rfl)]
          refine wp_load_mid 46 (.tmp 7) rfl w.heap.size 0 rfl (vals x) _ (hN2.drew.range 0 288 _ (by rw [List.drop_zero, List.take_of_length_le (by rw [vals_length, hx.1]; exact Nat.le_refl _)])) Try.underlying46 rfl (sizeP hx.1) ?_
          refine hK.out _ _ hHeld (fun hHeld => ?_)
          clear hK K
          try simp only [Act.put, List.getElem_toArray, List.getElem_cons_succ, List.getElem_cons_zero, List.setIfInBounds_toArray, List.set_cons_zero, List.set_cons_succ]
          refine wpAnyH_ready (rs := [1]) (by kernel_rfl) (by simp) ?_
          refine AllReadyH.cons rfl (fun K hK => ?_) AllReadyH.nil
          rw [if_pos (by rfl)]
          refine wp_buildPage (.tmp 42) rfl x rfl hx.1 ?_
          refine hK.out _ _ ((hV2.drew.alloc _).cell' (i := 2) rfl) (fun hHeld => ?_)
          clear hK K
          try simp only [Act.put, List.getElem_toArray, List.getElem_cons_succ, List.getElem_cons_zero, List.setIfInBounds_toArray, List.set_cons_zero, List.set_cons_succ]
          refine wpAnyH_ready (rs := [2]) (by kernel_rfl) (by simp) ?_
          refine AllReadyH.cons rfl (fun K hK => ?_) AllReadyH.nil
          go_simp
          refine (all_any (some ⟨w2.heap.size, 0, none⟩) 1 1 _).mono ?_
          rintro e w' ⟨rfl, rfl⟩
          try go_wp2_with fail
          refine hK.out _ _ (((hV2.drew.alloc _).alloc _).cell' (i := 2) rfl) (fun hHeld => ?_)
          clear hK K
          try simp only [Act.put, List.getElem_toArray, List.getElem_cons_succ, List.getElem_cons_zero, List.setIfInBounds_toArray, List.set_cons_zero, List.set_cons_succ]
          refine wpAnyH_ready (rs := [5]) (by kernel_rfl) (by simp) ?_
          refine AllReadyH.cons rfl (fun K hK => ?_) AllReadyH.nil
          go_simp
          refine (torn_one (w2.heap.size + 1) (.slice (some ⟨w2.heap.size, 0, none⟩) 1 1) x q m d E.mask _ hx ?_ ?_ (hin2.below b4)).mono ?_
          · exact hbox4
          · exact pages_one ((Blk.new w2 46 (vals x)).alloc _) hx
          rintro e w5 ⟨g, rfl, hg5, hB5, hb5⟩
          try go_wp2_with fail
          refine hK.out _ _ ((Blk.kept (Blk.kept hV2 b4) hb5).cell' (i := 2) rfl) (fun hHeld => ?_)
          clear hK K
          try simp only [Act.put, List.getElem_toArray, List.getElem_cons_succ, List.getElem_cons_zero, List.setIfInBounds_toArray, List.set_cons_zero, List.set_cons_succ]
          refine wpAnyH_take (i := 6) (v := ?_) rfl (by kernel_rfl) (by kernel_rfl) (by kernel_rfl) (fun _ _ _ h => h) (Or.inl ⟨by rfl, ?_⟩) hHeld ?_
          rotate_left
          · intro w hSw; go_simp; try (with_reducible rfl)
          try simp only [Act.put, List.getElem_toArray, List.getElem_cons_succ, List.getElem_cons_zero, List.setIfInBounds_toArray, List.set_cons_zero, List.set_cons_succ]
          refine wpAnyH_ready (rs := [7]) (by kernel_rfl) (by simp) ?_
          refine AllReadyH.cons rfl (fun K hK => ?_) AllReadyH.nil
          rw [if_pos (by rfl)]
          refine wp_load_mid 46 (.tmp 48) rfl g 0 rfl (vals (maskL x E.mask)) _ (hB5.range 0 288 _ (by rw [List.drop_zero, List.take_of_length_le (by rw [vals_length, hx'.1]; exact Nat.le_refl _)])) Try.underlying46 rfl (sizeP hx'.1) ?_
          refine hK.out _ _ hHeld (fun hHeld => ?_)
          clear hK K
          try simp only [Act.put, List.getElem_toArray, List.getElem_cons_succ, List.getElem_cons_zero, List.setIfInBounds_toArray, List.set_cons_zero, List.set_cons_succ]
          refine wpAnyH_ready (rs := [8]) (by kernel_rfl) (by simp) ?_
          refine AllReadyH.cons rfl (fun K hK => ?_) AllReadyH.nil
          rw [if_pos (by rfl)]
          refine wp_store_blk 46 (.tmp 7) (.tmp 49) rfl w.heap.size 0 (vals (maskL x E.mask)) rfl rfl ((hN2.kept b4).kept hb5) (by rw [vals_length, vals_length, hx'.1, hx.1]; exact Nat.le_refl _) (sizeP hx'.1) (vals_one _) ?_
          intro w7 hN7 ht7
          rw [whole_row (by rw [vals_length, vals_length, hx'.1, hx.1])] at hN7
          refine hK.out _ _ ((((hV2.kept b4).kept hb5).turned ht7 (by omega)).cell' (i := 2) rfl) (fun hHeld => ?_)
          clear hK K
          try simp only [Act.put, List.getElem_toArray, List.getElem_cons_succ, List.getElem_cons_zero, List.setIfInBounds_toArray, List.set_cons_zero, List.set_cons_succ]
          refine wpAnyH_done (by kernel_rfl) ?_ _
          refine NoPanic.normal ?_
          have hV7 := ((hV2.kept b4).kept hb5).turned ht7 (by omega)
          have h27 : Keep (fun k => k = w.heap.size) w2 w7 := (Keep.of_below ((b4.trans (hb5.mono b4.size)))).trans (Keep.of_turned (S := fun k => k = w.heap.size) ht7 rfl) (fun _ _ e => e)
          have hc7 := (hc1.kept hb2).keep h27 (by omega)
          have hBB7 := ((hB'.keep hk1 (fun e => h.ne e.symm)).kept hb2).keep h27 (by omega)
          clear hHeld hB5 hb5 ht7 hcV hbox4 b4 hN2
          go_wp2_with (first
            | (guard_target = wpList _ _ _ (Oper.mk _ (Op.load 46 (Operand.tmp 7)) _ _ _ _ :: _) _ _; refine wpList_load_mid rfl 46 (.tmp 7) rfl w.heap.size 0 rfl (vals (maskL x E.mask)) _ (hN7.range 0 288 _ (by rw [List.drop_zero, List.take_of_length_le (by rw [vals_length, hx'.1]; exact Nat.le_refl _)])) Try.underlying46 rfl (sizeP hx'.1) ?_)
            | (go_at_call 43; refine (put_any bb (bk * 4) pk (PV bk) K.pages (maskL x E.mask) BC _ hBB7 q0 (((h.pg bk K hK).below hbel).same (fun k hk => ?_)) hx' ?_ ?_ ?_).mono ?_; (rw [h27.block k (by have := hpb k hk; omega) (by have := hpb k hk; omega), hb2.block k (by have := hpb k hk; omega)]; exact hk1.block k (by have := hpb k hk; omega) (fun e => (h.nec bk hbk k hk).1 e)); omega; omega; (exact fun k hk => (h.nec bk hbk k hk).2); rintro e w8 ⟨⟨u, rfl⟩, v', hB8, hp8, hk8, hfr8⟩; have c8 := hB8.cell' (i := bk * 4 + 2) (by rw [List.getElem?_set_ne (by omega)]; exact q2); have f8 := hB8.frozen (bk * 4 + 2); have hV8 := hV7.keep hk8 (fun e => e.elim (fun e => by omega) (fun e => by have := hpb _ e; omega)); have n8 := hV8.cell' (i := 1) rfl; have hbw1 : bb ≠ w1.heap.size := by omega)
            | (go_at_call 41; refine (hout _).mono ?_; rintro e w' ⟨rfl, rfl⟩))
          go_ret
          exact ⟨rfl, prog_end h hbk hK hcell hl hbl (by omega) hpk ((Keep.of_below hbel).trans hk1 (fun _ _ e => e)) hc1 he1 ((Keep.of_below (S := fun k => k = w.heap.size) hb2).trans h27 (fun _ _ e => e)) hB8 hp8 hk8 hfr8⟩
  · exact prog_refused c s bb PV b p x w h h0
end Go.Proofs.Ythafcnilhloldaa
