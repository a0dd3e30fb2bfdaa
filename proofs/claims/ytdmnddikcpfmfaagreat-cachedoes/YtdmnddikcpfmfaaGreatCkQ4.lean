/-
  The reference's own and last.
-/
import Derived.Test.YtdmnddikcpfmfaaGreatCkQ3
import Derived.Test.YtdmnddikcpfmfaaGreatCkClean
namespace Go.Proofs.YtdmnddikcpfmfaaGreat
open Go.RowKit Go.Shelf
theorem own_any (p : Option Addr) (c : Nat) (xs : List Nat) (w : World) (hx : In w p 256 c xs) :
    Calls Tryz.prog 73 #[.slice p 256 c] w fun e w' => ∃ p' c', e = .returned (.slice p' 256 c') ∧ In w' p' 256 c' xs ∧ Below w.heap.size w w' ∧ U8 w' p' := by
  have HX : Hid (xs.length = 256) := hx.len
  obtain ⟨i0, hi, hz0, hz1, hz2⟩ := info_parts info5
  obtain ⟨b, o, rfl, _, _⟩ := hx.at' (by omega)
  have hcs := hx.cells rfl
  go_enter Tryz.func73, Tryz.ntmps73
  go_wp2_with (at_builtin; refine wpList_append_own _ rfl (.const (.slice none 0 0)) (.tmp 3) 52 rfl w.heap.size 5 i0 (.int .u8 0) 1 1 Tryz.underlying52 hi hz0 hz1 hz2 rfl (by decide) (.slice none 0 0) 0 [] rfl (World.ownsRow_nil _ _ _ _) ⟨b, o, none⟩ 256 c (vals xs) rfl (by rw [vals_length, HX.out]) hcs (vals_one _) (by unfold maxLen; omega) (by omega) (Nat.le_refl _) ?_; intro v1 w1 hown1 hgrow1 _)
  go_ret
  rw [List.nil_append, Nat.zero_add] at hown1
  obtain ⟨p', c', hv, hin⟩ := in_of_owns hown1 hx.byte (by omega)
  rw [hv] at hown1
  exact ⟨p', c', congrArg Ending.returned hv, hin, below_grown0 hgrow1, owns_u8 hown1⟩
theorem QIn.u8_ne {w : World} {s : QS} (h : QIn w s) {k : Nat} {cs : Array Value} (hc : w.heap[k]? = some (Obj.cells cs 5 (0, 0))) (hk : fpQ s k) : False := by
  have hb : Blk w k 5 cs.toList := hc
  rcases hk with rfl | hk | rfl | hk | hk | hk
  · exact blk_ne h.blk hb (by decide) rfl
  · exact owns_ne h.row hk hb (by decide) rfl
  · exact blk_ne h.ref.blk hb (by decide) rfl
  · exact owns_ne h.ref.srow hk hb (by decide) rfl
  · exact owns_ne h.ref.brow hk hb (by decide) rfl
  · exact owns_ne h.ref.wrow hk hb (by decide) rfl
theorem QAfter.dat {w w' : World} {s s' : QS} (h : QIn w s) (hA : QAfter w w' s s') {p : Option Addr} {n c : Nat} {xs : List Nat} (hx : In w p n c xs ∧ U8 w p) : In w' p n c xs ∧ U8 w' p := by
  have hs : ∀ a, p = some a → w'.heap[a.block]? = w.heap[a.block]? := fun a ha => by
    obtain ⟨cs, hc⟩ := hx.2 a ha
    exact hA.keep.block _ (Array.getElem?_eq_some_iff.1 hc).1 (fun e => h.u8_ne hc e)
  exact ⟨hx.1.same (fun a ha _ => hs a ha), hx.2.same hs⟩
theorem QIn.rowgrown {w w' : World} {s : QS} (h : QIn w s) (hg : w.grownBy w' s.lv.ownBlock) : Keep (fpQ s) w w' ∧ Blk w' s.q 77 [.pointer (some ⟨s.g, 0, none⟩), .int .i64 (s.room : Int), s.lv] ∧ RefIn w' s.g s.V s.t ∧ ∀ p n c xs, In w p n c xs ∧ U8 w p → In w' p n c xs ∧ U8 w' p := by
  have h5 : ∀ (k : Nat) (cs : Array Value), w.heap[k]? = some (Obj.cells cs 5 (0, 0)) → w'.heap[k]? = w.heap[k]? := fun k cs hc => hg.block k (Array.getElem?_eq_some_iff.1 hc).1 (fun e => h.u8_ne hc (.inr (.inl e.symm)))
  refine ⟨Keep.of_grown hg (fun k hk _ => .inr (.inl hk)), h.blk.grown hg (fun e => owns_ne h.row e.symm h.blk (by decide) rfl), h.ref.same (fun k hk => hg.block k (h.ref.lt hk) (fun e => ?_)) h5, fun p n c xs hx => ?_⟩
  · rcases hk with rfl | hk | hk | hk
    · exact owns_ne h.row e.symm h.ref.blk (by decide) rfl
    · exact owns_ne2 h.row h.ref.srow (by decide) e.symm hk
    · exact owns_ne2 h.row h.ref.brow (by decide) e.symm hk
    · exact owns_ne2 h.row h.ref.wrow (by decide) e.symm hk
  · have hs : ∀ a, p = some a → w'.heap[a.block]? = w.heap[a.block]? := fun a ha => by
      obtain ⟨cs, hc⟩ := hx.2 a ha
      exact h5 _ _ hc
    exact ⟨hx.1.same (fun a ha _ => hs a ha), hx.2.same hs⟩
theorem isI_isK (k : Nat) : isI (k : Int) = isK k := by
  funext b
  unfold isI isK
  exact decide_eq_decide.2 (by omega)
set_option linter.unusedSimpArgs false in
set_option maxHeartbeats 4000000 in
set_option maxRecDepth 100000 in
theorem qlast_any {w : World} {s : QS} (h : QIn w s) (x : QB) (hd : In w x.p x.b.D.length x.cap x.b.D ∧ U8 w x.p) (hroom : (dropK s.P x.b.k).length + 1 ≤ s.room) : Calls Tryz.prog 72 #[.pointer (some ⟨s.q, 0, none⟩), .agg #[.int .i64 (x.b.k : Int), .slice x.p x.b.D.length x.cap, .int .i64 (x.b.cl : Int), .int .i64 (x.b.pins : Int)]] w fun e w' => (∃ u, e = .returned u) ∧ ∃ s', QAfter w w' s s' ∧ s'.P = dropK s.P x.b.k ++ [x.b] ∧ s'.V = s.V ∧ s'.t = s.t := by
  have hb0 := below_alloc w (.cells #[.int .i64 (x.b.k : Int), .slice x.p x.b.D.length x.cap, .int .i64 (x.b.cl : Int), .int .i64 (x.b.pins : Int)] 86)
  have h1 := h.below hb0
  have k0 : Blk (w.alloc (.cells #[.int .i64 (x.b.k : Int), .slice x.p x.b.D.length x.cap, .int .i64 (x.b.cl : Int), .int .i64 (x.b.pins : Int)] 86)) w.heap.size 86 (qrow x) := Blk.new' w 86 #[.int .i64 (x.b.k : Int), .slice x.p x.b.D.length x.cap, .int .i64 (x.b.cl : Int), .int .i64 (x.b.pins : Int)]
  have c0 := k0.cell' (i := 0) rfl
  have ha := qat_any h1 (x.b.k : Int)
  have hr2 := h.r2
  cases hc : cutAt (isI (x.b.k : Int)) s.P with
  | none =>
    have e1 : atI s.P (x.b.k : Int) = -1 := by rw [atI, hc]
    have e2 : dropK s.P x.b.k = s.P := by rw [dropK, ← isI_isK, hc]
    rw [e1] at ha
    rw [e2] at hroom ⊢
    obtain ⟨lv3, L3, n3, w3, HA, HN3, HP3, HW⟩ : ∃ lv3 L3 n3 w3, Hid (QAfter (w.alloc (.cells #[.int .i64 (x.b.k : Int), .slice x.p x.b.D.length x.cap, .int .i64 (x.b.cl : Int), .int .i64 (x.b.pins : Int)] 86)) w3 s { s with lv := lv3, L := L3 }) ∧ Hid (L3.length = n3) ∧ Hid (L3.map (·.b) = s.P) ∧ Hid (w3 = w.alloc (.cells #[.int .i64 (x.b.k : Int), .slice x.p x.b.D.length x.cap, .int .i64 (x.b.cl : Int), .int .i64 (x.b.pins : Int)] 86)) := ⟨s.lv, s.L, _, _, QAfter.refl h1, rfl, rfl, rfl⟩
    have hroom3 : n3 + 1 ≤ s.room := by have e := congrArg List.length HP3.out; rw [List.length_map, HN3.out] at e; omega
    have hA3 := HA.out
    clear e1 e2 hc
    have h3 := hA3.qin
    have kb := k0.keep hA3.keep (fun e => Nat.lt_irrefl _ (h.lt e))
    obtain ⟨pl, cl, HLV⟩ : ∃ pl cl, Hid (lv3 = .slice pl n3 cl) := by
      obtain ⟨pl, cl, e⟩ := owns_slice h3.row
      exact ⟨pl, cl, e.trans (by rw [show ({ s with lv := lv3, L := L3 } : QS).L = L3 from rfl, HN3.out])⟩
    have hbA : Below w3.heap.size w3 (w3.drew.alloc (.cells #[.int .i64 (x.b.k : Int), .slice x.p x.b.D.length x.cap, .int .i64 (x.b.cl : Int), .int .i64 (x.b.pins : Int)] 86)) := bt ((Below.refl _ _).drew) (below_alloc _ _)
    have hA4 := h3.below hbA
    have hrowA : (w3.drew.alloc (.cells #[.int .i64 (x.b.k : Int), .slice x.p x.b.D.length x.cap, .int .i64 (x.b.cl : Int), .int .i64 (x.b.pins : Int)] 86)).ownsRow 0 86 4 (.slice pl n3 cl) n3 (flatQ L3) := by
      have := hA4.row
      rwa [show ({ s with lv := lv3, L := L3 } : QS).lv = lv3 from rfl, show ({ s with lv := lv3, L := L3 } : QS).L = L3 from rfl, HLV.out, HN3.out] at this
    have kbA := kb.kept hbA
    have HNEW : Hid (∀ j u, (flatQ [x])[j]? = some u → (w3.drew.alloc (.cells #[.int .i64 (x.b.k : Int), .slice x.p x.b.D.length x.cap, .int .i64 (x.b.cl : Int), .int .i64 (x.b.pins : Int)] 86)).cell? ((⟨w3.heap.size, 0, none⟩ : Addr).add j) = some u) := by
      intro j u hj
      rw [addr_add, Nat.zero_add]
      exact (Blk.new' w3.drew 86 #[.int .i64 (x.b.k : Int), .slice x.p x.b.D.length x.cap, .int .i64 (x.b.cl : Int), .int .i64 (x.b.pins : Int)]).cell' (by simpa [flatQ, qrow] using hj)
    have hdA : In (w3.drew.alloc (.cells #[.int .i64 (x.b.k : Int), .slice x.p x.b.D.length x.cap, .int .i64 (x.b.cl : Int), .int .i64 (x.b.pins : Int)] 86)) x.p x.b.D.length x.cap x.b.D ∧ U8 (w3.drew.alloc (.cells #[.int .i64 (x.b.k : Int), .slice x.p x.b.D.length x.cap, .int .i64 (x.b.cl : Int), .int .i64 (x.b.pins : Int)] 86)) x.p := by
      have := hA3.dat h1 ⟨hd.1.below hb0, hd.2.below hb0⟩
      exact ⟨this.1.below hbA, this.2.below hbA⟩
    have hfar : ∀ k, fpQ ({ s with lv := lv3, L := L3 } : QS) k → k = w.heap.size → False := fun k hk e => by
      rcases hA3.fr k hk with e' | e'
      · have := h.lt e'; omega
      · rw [World.size_alloc] at e'; omega
    have hbq : w.heap.size ≠ s.q := fun e => hfar _ (.inl rfl) e.symm
    have c2a : w3.drew.cell? ⟨s.q, 2, none⟩ = some (.slice pl n3 cl) := by rw [← HLV.out]; exact h3.blk.drew.cell' (i := 2) rfl
    have c2b : (w3.drew.alloc (.cells #[.int .i64 (x.b.k : Int), .slice x.p x.b.D.length x.cap, .int .i64 (x.b.cl : Int), .int .i64 (x.b.pins : Int)] 86)).cell? ⟨s.q, 2, none⟩ = some (.slice pl n3 cl) := by rw [← HLV.out]; exact hA4.blk.cell' (i := 2) rfl
    go_enter Tryz.func72, Tryz.ntmps72
    go_wp2_with (go_at_call 75; refine ha.mono ?_; rintro e w' ⟨rfl, hw'⟩; have hw2 := hw'.symm; subst hw2; clear hw')
    rw [← HW.out]
    refine wp_region_noPanic ?_
    refine wp_region_held_drew (S := fun X => Blk X w.heap.size 86 (qrow x)) (by kernel_rfl) kb.drew (fun hHeld => ?_)
    refine wpAnyH_take (i := 0) (v := ?_) rfl (by kernel_rfl) (by kernel_rfl) (by kernel_rfl) (fun _ _ _ h => h) (Or.inl ⟨by kernel_rfl, ?_⟩) hHeld ?_
    rotate_left
    · intro w' hSw; try dsimp only at hSw
      go_simp; try (with_reducible rfl)
    try simp only [Act.put, List.getElem_toArray, List.getElem_cons_succ, List.getElem_cons_zero, List.setIfInBounds_toArray, List.set_cons_zero, List.set_cons_succ]
    refine wpAnyH_take (i := 1) (v := ?_) rfl (by kernel_rfl) (by kernel_rfl) (by kernel_rfl) (fun _ _ _ h => h) (Or.inl ⟨by kernel_rfl, ?_⟩) hHeld ?_
    rotate_left
    · intro w' hSw; try dsimp only at hSw
      go_simp; try (with_reducible rfl)
    try simp only [Act.put, List.getElem_toArray, List.getElem_cons_succ, List.getElem_cons_zero, List.setIfInBounds_toArray, List.set_cons_zero, List.set_cons_succ]
    refine wpAnyH_take (i := 2) (v := ?_) rfl (by kernel_rfl) (by kernel_rfl) (by kernel_rfl) (fun _ _ _ h => h) (Or.inl ⟨by kernel_rfl, ?_⟩) hHeld ?_
    rotate_left
    · intro w' hSw; try dsimp only at hSw
      go_simp; try (with_reducible rfl)
    try simp only [Act.put, List.getElem_toArray, List.getElem_cons_succ, List.getElem_cons_zero, List.setIfInBounds_toArray, List.set_cons_zero, List.set_cons_succ]
    refine wpAnyH_take (i := 3) (v := ?_) rfl (by kernel_rfl) (by kernel_rfl) (by kernel_rfl) (fun _ _ _ h => h) (Or.inl ⟨by kernel_rfl, ?_⟩) hHeld ?_
    rotate_left
    · intro w' hSw; try dsimp only at hSw
      go_simp; try (with_reducible rfl)
    try simp only [Act.put, List.getElem_toArray, List.getElem_cons_succ, List.getElem_cons_zero, List.setIfInBounds_toArray, List.set_cons_zero, List.set_cons_succ]
    refine wpAnyH_take (i := 5) (v := ?_) rfl (by kernel_rfl) (by kernel_rfl) (by kernel_rfl) (fun _ _ _ h => h) (Or.inl ⟨by kernel_rfl, ?_⟩) hHeld ?_
    rotate_left
    · intro w' hSw; try dsimp only at hSw
      have c0 := hSw.cell' (i := 0) rfl
      have c1 := hSw.cell' (i := 1) rfl
      have c2 := hSw.cell' (i := 2) rfl
      have c3 := hSw.cell' (i := 3) rfl
      go_simp; try (with_reducible rfl)
    try simp only [Act.put, List.getElem_toArray, List.getElem_cons_succ, List.getElem_cons_zero, List.setIfInBounds_toArray, List.set_cons_zero, List.set_cons_succ]
    refine wpAnyH_ready (rs := [4, 6]) (by kernel_rfl) (by simp) ?_
    refine AllReadyH.cons rfl (fun K hK => ?_) ?_
    · have c2 := c2a
      go_simp
      refine hK.out _ _ kb.drew (fun hHeld => ?_)
      clear hK K
      try simp only [Act.put, List.getElem_toArray, List.getElem_cons_succ, List.getElem_cons_zero, List.setIfInBounds_toArray, List.set_cons_zero, List.set_cons_succ]
      refine wpAnyH_ready (rs := [6]) (by kernel_rfl) (by simp) ?_
      refine AllReadyH.cons rfl (fun K hK => ?_) AllReadyH.nil
      go_simp
      refine hK.out _ _ kbA (fun hHeld => ?_)
      clear hK K
      try simp only [Act.put, List.getElem_toArray, List.getElem_cons_succ, List.getElem_cons_zero, List.setIfInBounds_toArray, List.set_cons_zero, List.set_cons_succ]
      refine wpAnyH_ready (rs := [7]) (by kernel_rfl) (by simp) ?_
      refine AllReadyH.cons rfl (fun K hK => ?_) AllReadyH.nil
      rw [if_pos (by rfl)]
      refine wp_appendQ (.tmp 18) (.tmp 20) rfl (.slice pl n3 cl) n3 L3 rfl hrowA ⟨w3.heap.size, 0, none⟩ 1 1 [x] rfl rfl HNEW.out (by omega) ?_
      intro p5 c5 w5 hown5 hgrow5 hat5
      obtain ⟨K5, B5, R5, D5⟩ := hA4.rowgrown (show _ from by rw [show ({ s with lv := lv3, L := L3 } : QS).lv = lv3 from rfl, HLV.out]; exact hgrow5)
      have k5 := kbA.keep K5 (fun e => hfar _ e rfl)
      have c2' := B5.cell' (i := 2) (v := lv3) rfl
      rw [HLV.out] at c2'
      have f2 := B5.frozen 2
      dsimp only at c2' f2
      have E := hA4.relist K5 B5 R5 (L' := L3 ++ [x]) (by rw [List.length_append, HN3.out]; exact hown5) (fun y hy => by rcases List.mem_append.1 hy with e | e; exact D5 _ _ _ _ (hA4.dat y e); rw [List.mem_singleton.1 e]; exact D5 _ _ _ _ hdA) (by rw [List.length_append, HN3.out]; exact hroom3) (fun k hk => by rw [hk] at hat5; rcases hat5 with e | e; exact .inl (by show lv3.ownBlock = _; rw [HLV.out]; exact e.symm); exact .inr (Nat.le_of_eq (Option.some.inj e).symm))
      have kE : Blk (w5.setCell ⟨s.q, 2, none⟩ (.slice p5 (n3 + 1) c5)) w.heap.size 86 (qrow x) := k5.setOther _ _ hbq
      refine hK.out _ _ k5 (fun hHeld => ?_)
      clear hK K
      try simp only [Act.put, List.getElem_toArray, List.getElem_cons_succ, List.getElem_cons_zero, List.setIfInBounds_toArray, List.set_cons_zero, List.set_cons_succ]
      refine wpAnyH_take (i := 8) (v := ?_) rfl (by kernel_rfl) (by kernel_rfl) (by kernel_rfl) (fun _ _ _ h => h) (Or.inl ⟨by kernel_rfl, ?_⟩) hHeld ?_
      rotate_left
      · intro w' hSw; try dsimp only at hSw
        go_simp; try (with_reducible rfl)
      try simp only [Act.put, List.getElem_toArray, List.getElem_cons_succ, List.getElem_cons_zero, List.setIfInBounds_toArray, List.set_cons_zero, List.set_cons_succ]
      refine wpAnyH_take (i := 9) (v := ?_) rfl (by kernel_rfl) (by kernel_rfl) (by kernel_rfl) (fun _ _ _ h => h) (Or.inl ⟨by kernel_rfl, ?_⟩) hHeld ?_
      rotate_left
      · intro w' hSw; try dsimp only at hSw
        go_simp; try (with_reducible rfl)
      try simp only [Act.put, List.getElem_toArray, List.getElem_cons_succ, List.getElem_cons_zero, List.setIfInBounds_toArray, List.set_cons_zero, List.set_cons_succ]
      refine wpAnyH_ready (rs := [10]) (by kernel_rfl) (by simp) ?_
      refine AllReadyH.cons rfl (fun K hK => ?_) AllReadyH.nil
      go_simp
      refine hK.out _ _ kE (fun hHeld => ?_)
      clear hK K
      try simp only [Act.put, List.getElem_toArray, List.getElem_cons_succ, List.getElem_cons_zero, List.setIfInBounds_toArray, List.set_cons_zero, List.set_cons_succ]
      refine wpAnyH_done (by kernel_rfl) ?_ _
      refine NoPanic.normal ?_
      try go_wp2_with fail
      go_end0
      exact ⟨⟨_, rfl⟩, _, ((hA3.trans (QAfter.drop hbA E)).drop hb0), (by have e := HP3.out; simp [QS.P] at e ⊢; rw [e]; try simp), rfl, rfl⟩
    refine AllReadyH.cons rfl (fun K hK => ?_) AllReadyH.nil
    go_simp
    refine hK.out _ _ kbA (fun hHeld => ?_)
    clear hK K
    try simp only [Act.put, List.getElem_toArray, List.getElem_cons_succ, List.getElem_cons_zero, List.setIfInBounds_toArray, List.set_cons_zero, List.set_cons_succ]
    refine wpAnyH_ready (rs := [4]) (by kernel_rfl) (by simp) ?_
    refine AllReadyH.cons rfl (fun K hK => ?_) AllReadyH.nil
    have c2 : ((w3.alloc (.cells #[.int .i64 (x.b.k : Int), .slice x.p x.b.D.length x.cap, .int .i64 (x.b.cl : Int), .int .i64 (x.b.pins : Int)] 86)).drew).cell? ⟨s.q, 2, none⟩ = some (.slice pl n3 cl) := c2b
    have c3 : ((w3.alloc (.cells #[.int .i64 (x.b.k : Int), .slice x.p x.b.D.length x.cap, .int .i64 (x.b.cl : Int), .int .i64 (x.b.pins : Int)] 86))).cell? ⟨s.q, 2, none⟩ = some (.slice pl n3 cl) := c2b
    go_simp
    refine hK.out _ _ kbA (fun hHeld => ?_)
    clear hK K
    try simp only [Act.put, List.getElem_toArray, List.getElem_cons_succ, List.getElem_cons_zero, List.setIfInBounds_toArray, List.set_cons_zero, List.set_cons_succ]
    refine wpAnyH_ready (rs := [7]) (by kernel_rfl) (by simp) ?_
    refine AllReadyH.cons rfl (fun K hK => ?_) AllReadyH.nil
    rw [if_pos (by rfl)]
    refine wp_appendQ (.tmp 18) (.tmp 20) rfl (.slice pl n3 cl) n3 L3 rfl hrowA ⟨w3.heap.size, 0, none⟩ 1 1 [x] rfl rfl HNEW.out (by omega) ?_
    intro p5 c5 w5 hown5 hgrow5 hat5
    obtain ⟨K5, B5, R5, D5⟩ := hA4.rowgrown (show _ from by rw [show ({ s with lv := lv3, L := L3 } : QS).lv = lv3 from rfl, HLV.out]; exact hgrow5)
    have k5 := kbA.keep K5 (fun e => hfar _ e rfl)
    have c2' := B5.cell' (i := 2) (v := lv3) rfl
    rw [HLV.out] at c2'
    have f2 := B5.frozen 2
    dsimp only at c2' f2
    have E := hA4.relist K5 B5 R5 (L' := L3 ++ [x]) (by rw [List.length_append, HN3.out]; exact hown5) (fun y hy => by rcases List.mem_append.1 hy with e | e; exact D5 _ _ _ _ (hA4.dat y e); rw [List.mem_singleton.1 e]; exact D5 _ _ _ _ hdA) (by rw [List.length_append, HN3.out]; exact hroom3) (fun k hk => by rw [hk] at hat5; rcases hat5 with e | e; exact .inl (by show lv3.ownBlock = _; rw [HLV.out]; exact e.symm); exact .inr (Nat.le_of_eq (Option.some.inj e).symm))
    have kE : Blk (w5.setCell ⟨s.q, 2, none⟩ (.slice p5 (n3 + 1) c5)) w.heap.size 86 (qrow x) := k5.setOther _ _ hbq
    refine hK.out _ _ k5 (fun hHeld => ?_)
    clear hK K
    try simp only [Act.put, List.getElem_toArray, List.getElem_cons_succ, List.getElem_cons_zero, List.setIfInBounds_toArray, List.set_cons_zero, List.set_cons_succ]
    refine wpAnyH_take (i := 8) (v := ?_) rfl (by kernel_rfl) (by kernel_rfl) (by kernel_rfl) (fun _ _ _ h => h) (Or.inl ⟨by kernel_rfl, ?_⟩) hHeld ?_
    rotate_left
    · intro w' hSw; try dsimp only at hSw
      go_simp; try (with_reducible rfl)
    try simp only [Act.put, List.getElem_toArray, List.getElem_cons_succ, List.getElem_cons_zero, List.setIfInBounds_toArray, List.set_cons_zero, List.set_cons_succ]
    refine wpAnyH_take (i := 9) (v := ?_) rfl (by kernel_rfl) (by kernel_rfl) (by kernel_rfl) (fun _ _ _ h => h) (Or.inl ⟨by kernel_rfl, ?_⟩) hHeld ?_
    rotate_left
    · intro w' hSw; try dsimp only at hSw
      go_simp; try (with_reducible rfl)
    try simp only [Act.put, List.getElem_toArray, List.getElem_cons_succ, List.getElem_cons_zero, List.setIfInBounds_toArray, List.set_cons_zero, List.set_cons_succ]
    refine wpAnyH_ready (rs := [10]) (by kernel_rfl) (by simp) ?_
    refine AllReadyH.cons rfl (fun K hK => ?_) AllReadyH.nil
    go_simp
    refine hK.out _ _ kE (fun hHeld => ?_)
    clear hK K
    try simp only [Act.put, List.getElem_toArray, List.getElem_cons_succ, List.getElem_cons_zero, List.setIfInBounds_toArray, List.set_cons_zero, List.set_cons_succ]
    refine wpAnyH_done (by kernel_rfl) ?_ _
    refine NoPanic.normal ?_
    try go_wp2_with fail
    go_end0
    exact ⟨⟨_, rfl⟩, _, ((hA3.trans (QAfter.drop hbA E)).drop hb0), (by have e := HP3.out; simp [QS.P] at e ⊢; rw [e]; try simp), rfl, rfl⟩
  | some r =>
    obtain ⟨p, y, q⟩ := r
    obtain ⟨hP, -, -⟩ := cutAt_spec hc
    have e1 : atI s.P (x.b.k : Int) = (p.length : Int) := by rw [atI, hc]
    have e2 : dropK s.P x.b.k = p ++ q := by rw [dropK, ← isI_isK, hc]
    have hPL : s.P.length = s.L.length := by simp [QS.P]
    have hil : p.length < s.L.length := by rw [← hPL, hP]; simp
    have hdr := qdrop_any h1 hil
    rw [e1] at ha
    rw [e2] at hroom ⊢
    obtain ⟨L3, HL3⟩ : ∃ L3, Hid (s.L.take p.length ++ s.L.drop (p.length + 1) = L3) := ⟨_, rfl⟩
    obtain ⟨n3, HN3⟩ : ∃ n3, Hid (L3.length = n3) := ⟨_, rfl⟩
    have HP3 : Hid (L3.map (·.b) = p ++ q) := by
      show _ = _
      have e : s.L.map (·.b) = p ++ y :: q := hP
      rw [← HL3.out, List.map_append, List.map_take, List.map_drop, e, List.take_left, show p.length + 1 = (p ++ [y]).length from by simp, show p ++ y :: q = (p ++ [y]) ++ q from by simp, List.drop_left]
    have hroom3 : n3 + 1 ≤ s.room := by have e := congrArg List.length HP3.out; rw [List.length_map, HN3.out] at e; omega
    rw [HL3.out] at hdr
    clear hP hPL hil e1 e2 hc
    generalize p.length = i at *
    go_enter Tryz.func72, Tryz.ntmps72
    go_wp2_with (first
      | (go_at_call 75; refine ha.mono ?_; rintro e w' ⟨rfl, hw'⟩; have hw2 := hw'.symm; subst hw2; clear hw')
      | (go_at_call 86; refine hdr.mono ?_; rintro e w3 ⟨⟨u, rfl⟩, lv3, hA3⟩))
    have h3 := hA3.qin
    have kb := k0.keep hA3.keep (fun e => Nat.lt_irrefl _ (h.lt e))
    obtain ⟨pl, cl, HLV⟩ : ∃ pl cl, Hid (lv3 = .slice pl n3 cl) := by
      obtain ⟨pl, cl, e⟩ := owns_slice h3.row
      exact ⟨pl, cl, e.trans (by rw [show ({ s with lv := lv3, L := L3 } : QS).L = L3 from rfl, HN3.out])⟩
    have hbA : Below w3.heap.size w3 (w3.drew.alloc (.cells #[.int .i64 (x.b.k : Int), .slice x.p x.b.D.length x.cap, .int .i64 (x.b.cl : Int), .int .i64 (x.b.pins : Int)] 86)) := bt ((Below.refl _ _).drew) (below_alloc _ _)
    have hA4 := h3.below hbA
    have hrowA : (w3.drew.alloc (.cells #[.int .i64 (x.b.k : Int), .slice x.p x.b.D.length x.cap, .int .i64 (x.b.cl : Int), .int .i64 (x.b.pins : Int)] 86)).ownsRow 0 86 4 (.slice pl n3 cl) n3 (flatQ L3) := by
      have := hA4.row
      rwa [show ({ s with lv := lv3, L := L3 } : QS).lv = lv3 from rfl, show ({ s with lv := lv3, L := L3 } : QS).L = L3 from rfl, HLV.out, HN3.out] at this
    have kbA := kb.kept hbA
    have HNEW : Hid (∀ j u, (flatQ [x])[j]? = some u → (w3.drew.alloc (.cells #[.int .i64 (x.b.k : Int), .slice x.p x.b.D.length x.cap, .int .i64 (x.b.cl : Int), .int .i64 (x.b.pins : Int)] 86)).cell? ((⟨w3.heap.size, 0, none⟩ : Addr).add j) = some u) := by
      intro j u hj
      rw [addr_add, Nat.zero_add]
      exact (Blk.new' w3.drew 86 #[.int .i64 (x.b.k : Int), .slice x.p x.b.D.length x.cap, .int .i64 (x.b.cl : Int), .int .i64 (x.b.pins : Int)]).cell' (by simpa [flatQ, qrow] using hj)
    have hdA : In (w3.drew.alloc (.cells #[.int .i64 (x.b.k : Int), .slice x.p x.b.D.length x.cap, .int .i64 (x.b.cl : Int), .int .i64 (x.b.pins : Int)] 86)) x.p x.b.D.length x.cap x.b.D ∧ U8 (w3.drew.alloc (.cells #[.int .i64 (x.b.k : Int), .slice x.p x.b.D.length x.cap, .int .i64 (x.b.cl : Int), .int .i64 (x.b.pins : Int)] 86)) x.p := by
      have := hA3.dat h1 ⟨hd.1.below hb0, hd.2.below hb0⟩
      exact ⟨this.1.below hbA, this.2.below hbA⟩
    have hfar : ∀ k, fpQ ({ s with lv := lv3, L := L3 } : QS) k → k = w.heap.size → False := fun k hk e => by
      rcases hA3.fr k hk with e' | e'
      · have := h.lt e'; omega
      · rw [World.size_alloc] at e'; omega
    have hbq : w.heap.size ≠ s.q := fun e => hfar _ (.inl rfl) e.symm
    have c2a : w3.drew.cell? ⟨s.q, 2, none⟩ = some (.slice pl n3 cl) := by rw [← HLV.out]; exact h3.blk.drew.cell' (i := 2) rfl
    have c2b : (w3.drew.alloc (.cells #[.int .i64 (x.b.k : Int), .slice x.p x.b.D.length x.cap, .int .i64 (x.b.cl : Int), .int .i64 (x.b.pins : Int)] 86)).cell? ⟨s.q, 2, none⟩ = some (.slice pl n3 cl) := by rw [← HLV.out]; exact hA4.blk.cell' (i := 2) rfl
    refine wp_region_noPanic ?_
    refine wp_region_held_drew (S := fun X => Blk X w.heap.size 86 (qrow x)) (by kernel_rfl) kb.drew (fun hHeld => ?_)
    refine wpAnyH_take (i := 0) (v := ?_) rfl (by kernel_rfl) (by kernel_rfl) (by kernel_rfl) (fun _ _ _ h => h) (Or.inl ⟨by kernel_rfl, ?_⟩) hHeld ?_
    rotate_left
    · intro w' hSw; try dsimp only at hSw
      go_simp; try (with_reducible rfl)
    try simp only [Act.put, List.getElem_toArray, List.getElem_cons_succ, List.getElem_cons_zero, List.setIfInBounds_toArray, List.set_cons_zero, List.set_cons_succ]
    refine wpAnyH_take (i := 1) (v := ?_) rfl (by kernel_rfl) (by kernel_rfl) (by kernel_rfl) (fun _ _ _ h => h) (Or.inl ⟨by kernel_rfl, ?_⟩) hHeld ?_
    rotate_left
    · intro w' hSw; try dsimp only at hSw
      go_simp; try (with_reducible rfl)
    try simp only [Act.put, List.getElem_toArray, List.getElem_cons_succ, List.getElem_cons_zero, List.setIfInBounds_toArray, List.set_cons_zero, List.set_cons_succ]
    refine wpAnyH_take (i := 2) (v := ?_) rfl (by kernel_rfl) (by kernel_rfl) (by kernel_rfl) (fun _ _ _ h => h) (Or.inl ⟨by kernel_rfl, ?_⟩) hHeld ?_
    rotate_left
    · intro w' hSw; try dsimp only at hSw
      go_simp; try (with_reducible rfl)
    try simp only [Act.put, List.getElem_toArray, List.getElem_cons_succ, List.getElem_cons_zero, List.setIfInBounds_toArray, List.set_cons_zero, List.set_cons_succ]
    refine wpAnyH_take (i := 3) (v := ?_) rfl (by kernel_rfl) (by kernel_rfl) (by kernel_rfl) (fun _ _ _ h => h) (Or.inl ⟨by kernel_rfl, ?_⟩) hHeld ?_
    rotate_left
    · intro w' hSw; try dsimp only at hSw
      go_simp; try (with_reducible rfl)
    try simp only [Act.put, List.getElem_toArray, List.getElem_cons_succ, List.getElem_cons_zero, List.setIfInBounds_toArray, List.set_cons_zero, List.set_cons_succ]
    refine wpAnyH_take (i := 5) (v := ?_) rfl (by kernel_rfl) (by kernel_rfl) (by kernel_rfl) (fun _ _ _ h => h) (Or.inl ⟨by kernel_rfl, ?_⟩) hHeld ?_
    rotate_left
    · intro w' hSw; try dsimp only at hSw
      have c0 := hSw.cell' (i := 0) rfl
      have c1 := hSw.cell' (i := 1) rfl
      have c2 := hSw.cell' (i := 2) rfl
      have c3 := hSw.cell' (i := 3) rfl
      go_simp; try (with_reducible rfl)
    try simp only [Act.put, List.getElem_toArray, List.getElem_cons_succ, List.getElem_cons_zero, List.setIfInBounds_toArray, List.set_cons_zero, List.set_cons_succ]
    refine wpAnyH_ready (rs := [4, 6]) (by kernel_rfl) (by simp) ?_
    refine AllReadyH.cons rfl (fun K hK => ?_) ?_
    · have c2 := c2a
      go_simp
      refine hK.out _ _ kb.drew (fun hHeld => ?_)
      clear hK K
      try simp only [Act.put, List.getElem_toArray, List.getElem_cons_succ, List.getElem_cons_zero, List.setIfInBounds_toArray, List.set_cons_zero, List.set_cons_succ]
      refine wpAnyH_ready (rs := [6]) (by kernel_rfl) (by simp) ?_
      refine AllReadyH.cons rfl (fun K hK => ?_) AllReadyH.nil
      go_simp
      refine hK.out _ _ kbA (fun hHeld => ?_)
      clear hK K
      try simp only [Act.put, List.getElem_toArray, List.getElem_cons_succ, List.getElem_cons_zero, List.setIfInBounds_toArray, List.set_cons_zero, List.set_cons_succ]
      refine wpAnyH_ready (rs := [7]) (by kernel_rfl) (by simp) ?_
      refine AllReadyH.cons rfl (fun K hK => ?_) AllReadyH.nil
      rw [if_pos (by rfl)]
      refine wp_appendQ (.tmp 18) (.tmp 20) rfl (.slice pl n3 cl) n3 L3 rfl hrowA ⟨w3.heap.size, 0, none⟩ 1 1 [x] rfl rfl HNEW.out (by omega) ?_
      intro p5 c5 w5 hown5 hgrow5 hat5
      obtain ⟨K5, B5, R5, D5⟩ := hA4.rowgrown (show _ from by rw [show ({ s with lv := lv3, L := L3 } : QS).lv = lv3 from rfl, HLV.out]; exact hgrow5)
      have k5 := kbA.keep K5 (fun e => hfar _ e rfl)
      have c2' := B5.cell' (i := 2) (v := lv3) rfl
      rw [HLV.out] at c2'
      have f2 := B5.frozen 2
      dsimp only at c2' f2
      have E := hA4.relist K5 B5 R5 (L' := L3 ++ [x]) (by rw [List.length_append, HN3.out]; exact hown5) (fun y hy => by rcases List.mem_append.1 hy with e | e; exact D5 _ _ _ _ (hA4.dat y e); rw [List.mem_singleton.1 e]; exact D5 _ _ _ _ hdA) (by rw [List.length_append, HN3.out]; exact hroom3) (fun k hk => by rw [hk] at hat5; rcases hat5 with e | e; exact .inl (by show lv3.ownBlock = _; rw [HLV.out]; exact e.symm); exact .inr (Nat.le_of_eq (Option.some.inj e).symm))
      have kE : Blk (w5.setCell ⟨s.q, 2, none⟩ (.slice p5 (n3 + 1) c5)) w.heap.size 86 (qrow x) := k5.setOther _ _ hbq
      refine hK.out _ _ k5 (fun hHeld => ?_)
      clear hK K
      try simp only [Act.put, List.getElem_toArray, List.getElem_cons_succ, List.getElem_cons_zero, List.setIfInBounds_toArray, List.set_cons_zero, List.set_cons_succ]
      refine wpAnyH_take (i := 8) (v := ?_) rfl (by kernel_rfl) (by kernel_rfl) (by kernel_rfl) (fun _ _ _ h => h) (Or.inl ⟨by kernel_rfl, ?_⟩) hHeld ?_
      rotate_left
      · intro w' hSw; try dsimp only at hSw
        go_simp; try (with_reducible rfl)
      try simp only [Act.put, List.getElem_toArray, List.getElem_cons_succ, List.getElem_cons_zero, List.setIfInBounds_toArray, List.set_cons_zero, List.set_cons_succ]
      refine wpAnyH_take (i := 9) (v := ?_) rfl (by kernel_rfl) (by kernel_rfl) (by kernel_rfl) (fun _ _ _ h => h) (Or.inl ⟨by kernel_rfl, ?_⟩) hHeld ?_
      rotate_left
      · intro w' hSw; try dsimp only at hSw
        go_simp; try (with_reducible rfl)
      try simp only [Act.put, List.getElem_toArray, List.getElem_cons_succ, List.getElem_cons_zero, List.setIfInBounds_toArray, List.set_cons_zero, List.set_cons_succ]
      refine wpAnyH_ready (rs := [10]) (by kernel_rfl) (by simp) ?_
      refine AllReadyH.cons rfl (fun K hK => ?_) AllReadyH.nil
      go_simp
      refine hK.out _ _ kE (fun hHeld => ?_)
      clear hK K
      try simp only [Act.put, List.getElem_toArray, List.getElem_cons_succ, List.getElem_cons_zero, List.setIfInBounds_toArray, List.set_cons_zero, List.set_cons_succ]
      refine wpAnyH_done (by kernel_rfl) ?_ _
      refine NoPanic.normal ?_
      try go_wp2_with fail
      go_end0
      exact ⟨⟨_, rfl⟩, _, ((hA3.trans (QAfter.drop hbA E)).drop hb0), (by have e := HP3.out; simp [QS.P] at e ⊢; rw [e]; try simp), rfl, rfl⟩
    refine AllReadyH.cons rfl (fun K hK => ?_) AllReadyH.nil
    go_simp
    refine hK.out _ _ kbA (fun hHeld => ?_)
    clear hK K
    try simp only [Act.put, List.getElem_toArray, List.getElem_cons_succ, List.getElem_cons_zero, List.setIfInBounds_toArray, List.set_cons_zero, List.set_cons_succ]
    refine wpAnyH_ready (rs := [4]) (by kernel_rfl) (by simp) ?_
    refine AllReadyH.cons rfl (fun K hK => ?_) AllReadyH.nil
    have c2 : ((w3.alloc (.cells #[.int .i64 (x.b.k : Int), .slice x.p x.b.D.length x.cap, .int .i64 (x.b.cl : Int), .int .i64 (x.b.pins : Int)] 86)).drew).cell? ⟨s.q, 2, none⟩ = some (.slice pl n3 cl) := c2b
    have c3 : ((w3.alloc (.cells #[.int .i64 (x.b.k : Int), .slice x.p x.b.D.length x.cap, .int .i64 (x.b.cl : Int), .int .i64 (x.b.pins : Int)] 86))).cell? ⟨s.q, 2, none⟩ = some (.slice pl n3 cl) := c2b
    go_simp
    refine hK.out _ _ kbA (fun hHeld => ?_)
    clear hK K
    try simp only [Act.put, List.getElem_toArray, List.getElem_cons_succ, List.getElem_cons_zero, List.setIfInBounds_toArray, List.set_cons_zero, List.set_cons_succ]
    refine wpAnyH_ready (rs := [7]) (by kernel_rfl) (by simp) ?_
    refine AllReadyH.cons rfl (fun K hK => ?_) AllReadyH.nil
    rw [if_pos (by rfl)]
    refine wp_appendQ (.tmp 18) (.tmp 20) rfl (.slice pl n3 cl) n3 L3 rfl hrowA ⟨w3.heap.size, 0, none⟩ 1 1 [x] rfl rfl HNEW.out (by omega) ?_
    intro p5 c5 w5 hown5 hgrow5 hat5
    obtain ⟨K5, B5, R5, D5⟩ := hA4.rowgrown (show _ from by rw [show ({ s with lv := lv3, L := L3 } : QS).lv = lv3 from rfl, HLV.out]; exact hgrow5)
    have k5 := kbA.keep K5 (fun e => hfar _ e rfl)
    have c2' := B5.cell' (i := 2) (v := lv3) rfl
    rw [HLV.out] at c2'
    have f2 := B5.frozen 2
    dsimp only at c2' f2
    have E := hA4.relist K5 B5 R5 (L' := L3 ++ [x]) (by rw [List.length_append, HN3.out]; exact hown5) (fun y hy => by rcases List.mem_append.1 hy with e | e; exact D5 _ _ _ _ (hA4.dat y e); rw [List.mem_singleton.1 e]; exact D5 _ _ _ _ hdA) (by rw [List.length_append, HN3.out]; exact hroom3) (fun k hk => by rw [hk] at hat5; rcases hat5 with e | e; exact .inl (by show lv3.ownBlock = _; rw [HLV.out]; exact e.symm); exact .inr (Nat.le_of_eq (Option.some.inj e).symm))
    have kE : Blk (w5.setCell ⟨s.q, 2, none⟩ (.slice p5 (n3 + 1) c5)) w.heap.size 86 (qrow x) := k5.setOther _ _ hbq
    refine hK.out _ _ k5 (fun hHeld => ?_)
    clear hK K
    try simp only [Act.put, List.getElem_toArray, List.getElem_cons_succ, List.getElem_cons_zero, List.setIfInBounds_toArray, List.set_cons_zero, List.set_cons_succ]
    refine wpAnyH_take (i := 8) (v := ?_) rfl (by kernel_rfl) (by kernel_rfl) (by kernel_rfl) (fun _ _ _ h => h) (Or.inl ⟨by kernel_rfl, ?_⟩) hHeld ?_
    rotate_left
    · intro w' hSw; try dsimp only at hSw
      go_simp; try (with_reducible rfl)
    try simp only [Act.put, List.getElem_toArray, List.getElem_cons_succ, List.getElem_cons_zero, List.setIfInBounds_toArray, List.set_cons_zero, List.set_cons_succ]
    refine wpAnyH_take (i := 9) (v := ?_) rfl (by kernel_rfl) (by kernel_rfl) (by kernel_rfl) (fun _ _ _ h => h) (Or.inl ⟨by kernel_rfl, ?_⟩) hHeld ?_
    rotate_left
    · intro w' hSw; try dsimp only at hSw
      go_simp; try (with_reducible rfl)
    try simp only [Act.put, List.getElem_toArray, List.getElem_cons_succ, List.getElem_cons_zero, List.setIfInBounds_toArray, List.set_cons_zero, List.set_cons_succ]
    refine wpAnyH_ready (rs := [10]) (by kernel_rfl) (by simp) ?_
    refine AllReadyH.cons rfl (fun K hK => ?_) AllReadyH.nil
    go_simp
    refine hK.out _ _ kE (fun hHeld => ?_)
    clear hK K
    try simp only [Act.put, List.getElem_toArray, List.getElem_cons_succ, List.getElem_cons_zero, List.setIfInBounds_toArray, List.set_cons_zero, List.set_cons_succ]
    refine wpAnyH_done (by kernel_rfl) ?_ _
    refine NoPanic.normal ?_
    try go_wp2_with fail
    go_end0
    exact ⟨⟨_, rfl⟩, _, ((hA3.trans (QAfter.drop hbA E)).drop hb0), (by have e := HP3.out; simp [QS.P] at e ⊢; rw [e]; try simp), rfl, rfl⟩
end Go.Proofs.YtdmnddikcpfmfaaGreat
