/-
  A chip's clone: a chip of its own, in new memory.
-/
import Derived.Test.YthafcnilhloldaaNLook
import Derived.Test.YthafcnilhloldaaNTrim
import Derived.Deep.RegionHeld3
import Derived.Deep.Cut
namespace Go.Proofs.Ythafcnilhloldaa
open Go.RowKit Go.Shelf
theorem infoBlkC : (Try.prog.info? 78).map (fun i => (i.zero, i.size, i.bytes)) = some (some (.agg #[.slice none 0 0, .int .i64 0, .int .i64 0, .bool false]), 4, 48) := by kernel_rfl
set_option maxRecDepth 100000 in
theorem cloneBlks_any (g n c : Nat) (BC : List Value) (w : World) (h0 : 0 < n) (hB : Blk w g 78 BC) (hl : n * 4 ≤ BC.length) (h1 : ∀ v ∈ BC.take (n * 4), v.oneCell' = true) (hn : n ≤ 1000) :
    Calls Try.prog 35 #[.slice (some ⟨g, 0, none⟩) n c] w fun e w' => ∃ g' c' cur, e = .returned (.slice (some ⟨g', 0, none⟩) n c') ∧ n ≤ c' ∧ Blk w' g' 78 cur ∧ cur.length = c' * 4 ∧ (∀ j, j < n * 4 → cur[j]? = BC[j]?) ∧ w.heap.size ≤ g' ∧ Below w.heap.size w w' := by
  obtain ⟨i0, hi, hz0, hz1, hz2⟩ := info_parts infoBlkC
  have HF : Hid ((BC.take (n * 4)).length = n * 4) := by show _ = _; rw [List.length_take]; omega
  have hq := fun (w : World) => Lib.run_eql_slice_nil (P := Try.prog) w 76 78 (some ⟨g, 0, none⟩) n c 0 0 Try.underlying76
  have ho := World.ownsRow_lit (e := 78) (size := 4) (base := w.heap.size) w #[] 0 (Nat.le_refl _) (by unfold maxLen; omega) (by simp)
  have HO : Hid ((w.alloc (.cells #[] 78)).ownsRow w.heap.size 78 4 (.slice (some ⟨w.heap.size, 0, none⟩) 0 0) 0 []) := ho
  clear ho
  have HT : Hid (∀ j, j < n * 4 → (BC.take (n * 4))[j]? = BC[j]?) := fun j hj => List.getElem?_take_of_lt hj
  have HS : Hid (∀ j u, (BC.take (n * 4))[j]? = some u → (w.alloc (.cells #[] 78)).cell? ((⟨g, 0, none⟩ : Addr).add j) = some u) := by
    intro j u hu
    rw [addr_add, Nat.zero_add]
    refine (hB.alloc _).cell' ?_
    by_cases hj : j < n * 4
    · rwa [List.getElem?_take_of_lt hj] at hu
    · rw [List.getElem?_eq_none (by rw [List.length_take]; omega)] at hu; cases hu
  have H1 : Hid (∀ v ∈ BC.take (n * 4), v.oneCell' = true) := h1
  clear h1 hB hl
  generalize BC.take (n * 4) = X at *
  go_enter Try.func35, Try.ntmps35
  go_wp2_with (at_builtin; refine wpList_append_own _ rfl (.tmp 5) (.tmp 6) 76 rfl w.heap.size 78 i0 _ 4 48 Try.underlying76 hi hz0 hz1 hz2 rfl (by decide) (.slice (some ⟨w.heap.size, 0, none⟩) 0 0) 0 [] rfl HO.out ⟨g, 0, none⟩ n c X rfl (by rw [HF.out]) HS.out H1.out (by unfold maxLen; omega) (by omega) (by simp) ?_; intro v1 w1 hown1 hgrow1 _)
  go_ret
  rw [List.nil_append, Nat.zero_add] at hown1
  have hbel := (below_alloc w (.cells #[] 78)).grown hgrow1 (by simp) (fun k hk => by simp [Value.ownBlock] at hk; omega)
  rcases hown1.2 with ⟨_, h'⟩ | ⟨g', cap, cur, rfl, hg', hh, hc, _, hs, ht⟩
  · omega
  · refine ⟨g', cap, cur.toList, rfl, hc, by simpa [Blk] using hh, by rw [Array.length_toList]; exact hs, fun j hj => ?_, hg', hbel⟩
    rw [← HT.out j hj, ← ht, List.getElem?_take_of_lt hj]
theorem clonePg_any (v : Value) (ps : List (List Nat)) (w : World) (h : PagesIn w v ps) (hl : ps.length ≤ 1000) :
    Calls Try.prog 36 #[v] w fun e w' => ∃ v', e = .returned v' ∧ PagesIn w' v' ps ∧ (∀ k, v'.ownBlock = some k → w.heap.size ≤ k) ∧ Below w.heap.size w w' := by
  have he := h.each
  rcases h.row.2 with ⟨rfl, h'⟩ | ⟨g, cap, cur, rfl, _, hh, hc, _, hs, ht⟩
  · have hps : ps = [] := List.eq_nil_of_length_eq_zero h'
    subst hps
    have hq := fun (w : World) => Lib.run_eql_slice_nil (P := Try.prog) w 58 46 none 0 0 0 0 Try.underlying58
    clear h h' he hl
    go_enter Try.func36, Try.ntmps36
    go_wp2
    go_ret
    exact ⟨_, rfl, PagesIn.nil _, fun k hk => by simp [Value.ownBlock] at hk, Below.refl _ _⟩
  · have hB : Blk w g 46 cur.toList := by simpa [Blk] using hh
    refine clonePages_any g ps.length cap ps w he rfl hl (fun j u hj => hB.cell' ?_) hB.lt
    rw [← ht] at hj
    by_cases hjn : j < ps.length * 288
    · rwa [List.getElem?_take_of_lt hjn] at hj
    · rw [List.getElem?_eq_none (by rw [List.length_take]; omega)] at hj; cases hj
theorem ChipIn.setZ {w : World} {c : Nat} {s : St} {bb : Nat} {PV : Nat → Value} (h : ChipIn w c s bb PV) {z : Nat → Prop} (hz : ∀ k, k < w.heap.size → z k → s.z k ∨ fpOf c bb PV s.nb k) : ChipIn w c { s with z := z } bb PV := by
  obtain ⟨ep, el, ec, hc, he⟩ := h.chip
  exact ⟨⟨ep, el, ec, hc, he.mono (fun k hk e => e.elim .inl (fun e => (hz k hk e).symm))⟩, h.blks, h.bll, h.pg, h.ne, h.nec, h.dis, h.nbl, h.npl, h.lim, h.ler⟩
/-- The row of a clone's blocks while their pages are cloned: the first k of them are its own. -/
structure CloneAt (s : St) (c' g' cr' M : Nat) (cv ev : Value) (PV Q : Nat → Value) (k : Nat) (wr : World) : Prop where
  chip : Blk wr c' 82 (chipCells s.nb s.np (.slice (some ⟨g', 0, none⟩) s.nb cr') ev s.ops s.on)
  row : ∃ cur, Blk wr g' 78 cur ∧ cur.length = cr' * 4 ∧ ∀ i b, s.bl[i]? = some b → cur[i * 4]? = some (if i < k then Q i else PV i) ∧ cur[i * 4 + 1]? = some (.int .i64 (b.wear : Int)) ∧ cur[i * 4 + 2]? = some (.int .i64 (b.next : Int)) ∧ cur[i * 4 + 3]? = some (.bool b.bad)
  pg : ∀ i b, i < k → s.bl[i]? = some b → PagesIn wr (Q i) b.pages
  own : ∀ i, i < k → ∀ j, (Q i).ownBlock = some j → M ≤ j ∧ j < wr.heap.size
  dis : ∀ i j, i < k → j < k → i ≠ j → ∀ x, (Q i).ownBlock = some x → (Q j).ownBlock ≠ some x
set_option linter.unusedSimpArgs false in
set_option linter.unusedVariables false in
set_option maxRecDepth 100000 in
set_option maxHeartbeats 8000000 in
theorem chipClone_any (c : Nat) (s : St) (bb : Nat) (PV : Nat → Value) (w : World) (h : ChipIn w c s bb PV) :
    Calls Try.prog 14 #[.pointer (some ⟨c, 0, none⟩)] w fun e w' => ∃ c' bb' cr' PV', e = .returned (.pointer (some ⟨c', 0, none⟩)) ∧ ChipIn w' c' { s with z := fun k => s.z k ∨ fpOf c bb PV s.nb k ∨ w'.heap.size ≤ k, cr := cr' } bb' PV' ∧ (∀ k, fpOf c' bb' PV' s.nb k → w.heap.size ≤ k) ∧ Below w.heap.size w w' := by
  have hnbl := h.nbl
  have hnpl := h.npl
  have hbll := h.bll
  have hler := h.ler
  obtain ⟨ep, el, ec, hc, he⟩ := h.chip
  obtain ⟨BC, hB, hl, hcell⟩ := h.blks
  have hm := made_any c _ s.nb s.cr w (hc.cell' (i := 2) rfl)
  rw [show decide (0 < s.nb) = true from by simp; omega] at hm
  have c0 := hc.cell' (i := 0) rfl
  have c1 := hc.cell' (i := 1) rfl
  have c2 := hc.cell' (i := 2) rfl
  have c3 := hc.cell' (i := 3) rfl
  have c4 := hc.cell' (i := 4) rfl
  have c5 := hc.cell' (i := 5) rfl
  have c2a := (hc.alloc (.cells #[.int .i64 (s.nb : Int), .int .i64 (s.np : Int), .slice (some ⟨bb, 0, none⟩) s.nb s.cr, .slice ep el ec, .int .i64 (s.ops : Int), .bool s.on] 82)).cell' (i := 2) rfl
  have hone : ∀ v ∈ BC.take (s.nb * 4), v.oneCell' = true := by
    intro v hv
    obtain ⟨j, hj⟩ := List.mem_iff_getElem?.1 hv
    have hjn : j < s.nb * 4 := by
      by_cases hj4 : j < s.nb * 4
      · exact hj4
      · rw [List.getElem?_eq_none (by rw [List.length_take]; omega)] at hj; cases hj
    rw [List.getElem?_take_of_lt hjn] at hj
    obtain ⟨k, hk⟩ := h.get (j / 4) (by omega)
    obtain ⟨q0, q1, q2, q3⟩ := hcell _ k hk
    obtain ⟨p, cap, hv0, _⟩ := (h.pg _ k hk).shape
    rcases (by omega : j = j / 4 * 4 ∨ j = j / 4 * 4 + 1 ∨ j = j / 4 * 4 + 2 ∨ j = j / 4 * 4 + 3) with e | e | e | e
    · rw [e, q0, hv0] at hj; cases hj; rfl
    · rw [e, q1] at hj; cases hj; rfl
    · rw [e, q2] at hj; cases hj; rfl
    · rw [e, q3] at hj; cases hj; rfl
  have hcb := fun W (hW : Below w.heap.size w W) => cloneBlks_any bb s.nb s.cr BC W (by omega) (hB.kept hW) (by rw [hl]; omega) hone (by omega)
  have HH : Hid (ChipIn w c s bb PV) := h
  have HE : Hid (EvsIn (fun k => fpOf c bb PV s.nb k ∨ s.z k) w ep el ec s.ev) := he
  have HCE : Hid (∀ i b, s.bl[i]? = some b → BC[i * 4]? = some (PV i) ∧ BC[i * 4 + 1]? = some (.int .i64 (b.wear : Int)) ∧ BC[i * 4 + 2]? = some (.int .i64 (b.next : Int)) ∧ BC[i * 4 + 3]? = some (.bool b.bad)) := hcell
  clear hone h he hcell hl hB
  go_enter Try.func14, Try.ntmps14
  go_wp2_with (go_at_call 33; refine hm.mono ?_; rintro e W0 ⟨rfl, hW0⟩; have hW1 := hW0.symm; subst hW1)
  have hb1 := below_alloc w (.cells #[.int .i64 (s.nb : Int), .int .i64 (s.np : Int), .slice (some ⟨bb, 0, none⟩) s.nb s.cr, .slice ep el ec, .int .i64 (s.ops : Int), .bool s.on] 82)
  have hK1 := Blk.new' w 82 #[.int .i64 (s.nb : Int), .int .i64 (s.np : Int), .slice (some ⟨bb, 0, none⟩) s.nb s.cr, .slice ep el ec, .int .i64 (s.ops : Int), .bool s.on]
  refine (hcb _ hb1).mono ?_
  rintro e w2 ⟨g', cr', cur, rfl, hcr', hg2, hgl, hgc, hgs, hb2⟩
  have hK2 := hK1.kept hb2
  rw [World.size_alloc] at hgs
  have k2 := hK2.cell' (i := 2) rfl
  have f2 := hK2.frozen 2
  have hB2 := bt hb1 hb2
  clear hb1 hK1 hb2 hcb hm c0 c1 c2 c3 c4 c5 c2a
  go_wp2
  have hK3 := hK2.set 2 (.slice (some ⟨g', 0, none⟩) s.nb cr')
  have hg3 := hg2.setOther ⟨w.heap.size, 2, none⟩ (.slice (some ⟨g', 0, none⟩) s.nb cr') (by show g' ≠ w.heap.size; omega)
  have hB3 : Below w.heap.size w (w2.setCell ⟨w.heap.size, 2, none⟩ (.slice (some ⟨g', 0, none⟩) s.nb cr')) := hB2.setCell (Nat.le_refl _) _
  generalize w2.setCell ⟨w.heap.size, 2, none⟩ (.slice (some ⟨g', 0, none⟩) s.nb cr') = w3 at *
  replace hK3 : Blk w3 w.heap.size 82 (chipCells s.nb s.np (.slice (some ⟨g', 0, none⟩) s.nb cr') (.slice ep el ec) s.ops s.on) := hK3
  obtain ⟨c', hc'⟩ : ∃ c', w.heap.size = c' := ⟨_, rfl⟩
  have HCC : Hid (w.heap.size = c') := hc'
  rw [hc'] at hK3 ⊢
  clear hc' k2 f2 hK2 hg2 hB2
  have hC0 : CloneAt s c' g' cr' w3.heap.size (.pointer none) (.slice ep el ec) PV (fun _ => .slice none 0 0) 0 w3 := ⟨hK3, ⟨cur, hg3, hgl, fun i b hb => by
    have hi : i < s.nb := by rw [← hbll]; exact (List.getElem?_eq_some_iff.1 hb).1
    obtain ⟨q0, q1, q2, q3⟩ := HCE.out i b hb
    rw [if_neg (Nat.not_lt_zero _), hgc _ (by omega), hgc _ (by omega), hgc _ (by omega), hgc _ (by omega)]
    exact ⟨q0, q1, q2, q3⟩⟩, fun i b hi => absurd hi (Nat.not_lt_zero _), fun i hi => absurd hi (Nat.not_lt_zero _), fun i j hi => absurd hi (Nat.not_lt_zero _)⟩
  have hlt3 : c' < w3.heap.size ∧ g' < w3.heap.size ∧ c' < g' := ⟨hK3.lt, hg3.lt, by have := HCC.out; omega⟩
  have k2 := hK3.cell' (i := 2) rfl
  go_wp2
  clear hK3 hg3 hgc hgl k2
  go_loopw [20] (fun t wr => ∃ (k : Nat) (Q : Nat → Value), k ≤ s.nb ∧ t = .int .i64 (k : Int) ∧ CloneAt s c' g' cr' w3.heap.size (.pointer none) (.slice ep el ec) PV Q k wr ∧ Below w.heap.size w wr ∧ w3.heap.size ≤ wr.heap.size) (fun t _ => s.nb - (intOf t).toNat)
  case atStart => exact ⟨0, _, Nat.zero_le _, rfl, hC0, hB3, Nat.le_refl _⟩
  case round =>
    clear hC0 hB3
    obtain ⟨k, Q, hk, rfl, hCA, hBr, h3r⟩ := hrel
    by_cases hlt : k < s.nb
    · have hki : (k : Int) < (s.nb : Int) := by omega
      obtain ⟨b, hb⟩ := HH.out.get k hlt
      obtain ⟨curk, hgk, hglk, hgck⟩ := hCA.row
      obtain ⟨q0, _, _, _⟩ := hgck k b hb
      rw [if_neg (Nat.lt_irrefl _)] at q0
      have hpk := (HH.out.below hBr).pg k b hb
      have hpl : b.pages.length ≤ 1000 := by have := HH.out.lim b (List.mem_of_getElem? hb); omega
      have hcp := fun W (hW : Below wr.heap.size wr W) => clonePg_any (PV k) b.pages W (hpk.below hW) hpl
      obtain ⟨pp, pcap, hpv, _⟩ := hpk.shape
      have hkc := hCA.chip
      generalize PV k = vk at *
      subst hpv
      go_upto_region 8 with fail
      refine wp_region_noPanic ?_
      refine wp_region_held_drew (S := fun w' => w'.cell? ⟨c', 2, none⟩ = some (.slice (some ⟨g', 0, none⟩) s.nb cr')) (by kernel_rfl) (hkc.drew.cell' (i := 2) rfl) (fun hHeld => ?_)
      refine wpAnyH_take (i := 0) (v := ?_) rfl (by kernel_rfl) (by kernel_rfl) (by kernel_rfl) (fun _ _ _ h => h) (Or.inl ⟨by rfl, ?_⟩) hHeld ?_
      rotate_left
      · intro w' hSw; try dsimp only at hSw
        go_simp; try (with_reducible rfl)
      try simp only [Act.put, List.getElem_toArray, List.getElem_cons_succ, List.getElem_cons_zero, List.setIfInBounds_toArray, List.set_cons_zero, List.set_cons_succ]
      refine wpAnyH_take (i := 1) (v := ?_) rfl (by kernel_rfl) (by kernel_rfl) (by kernel_rfl) (fun _ _ _ h => h) (Or.inl ⟨by rfl, ?_⟩) hHeld ?_
      rotate_left
      · intro w' hSw; try dsimp only at hSw
        have z := hSw
        go_simp; try (with_reducible rfl)
      try simp only [Act.put, List.getElem_toArray, List.getElem_cons_succ, List.getElem_cons_zero, List.setIfInBounds_toArray, List.set_cons_zero, List.set_cons_succ]
      refine wpAnyH_take (i := 2) (v := ?_) rfl (by kernel_rfl) (by kernel_rfl) (by kernel_rfl) (fun _ _ _ h => h) (Or.inl ⟨by rfl, ?_⟩) hHeld ?_
      rotate_left
      · intro w' hSw; try dsimp only at hSw
        go_simp; try (with_reducible rfl)
      try simp only [Act.put, List.getElem_toArray, List.getElem_cons_succ, List.getElem_cons_zero, List.setIfInBounds_toArray, List.set_cons_zero, List.set_cons_succ]
      refine wpAnyH_take (i := 3) (v := ?_) rfl (by kernel_rfl) (by kernel_rfl) (by kernel_rfl) (fun _ _ _ h => h) (Or.inl ⟨by rfl, ?_⟩) hHeld ?_
      rotate_left
      · intro w' hSw; try dsimp only at hSw
        go_simp; try (with_reducible rfl)
      try simp only [Act.put, List.getElem_toArray, List.getElem_cons_succ, List.getElem_cons_zero, List.setIfInBounds_toArray, List.set_cons_zero, List.set_cons_succ]
      refine wpAnyH_take (i := 4) (v := ?_) rfl (by kernel_rfl) (by kernel_rfl) (by kernel_rfl) (fun _ _ _ h => h) (Or.inl ⟨by rfl, ?_⟩) hHeld ?_
      rotate_left
      · intro w' hSw; try dsimp only at hSw
        have z := hSw
        go_simp; try (with_reducible rfl)
      try simp only [Act.put, List.getElem_toArray, List.getElem_cons_succ, List.getElem_cons_zero, List.setIfInBounds_toArray, List.set_cons_zero, List.set_cons_succ]
      refine wpAnyH_take (i := 5) (v := ?_) rfl (by kernel_rfl) (by kernel_rfl) (by kernel_rfl) (fun _ _ _ h => h) (Or.inl ⟨by rfl, ?_⟩) hHeld ?_
      rotate_left
      · intro w' hSw; try dsimp only at hSw
        go_simp; try (with_reducible rfl)
      try simp only [Act.put, List.getElem_toArray, List.getElem_cons_succ, List.getElem_cons_zero, List.setIfInBounds_toArray, List.set_cons_zero, List.set_cons_succ]
      refine wpAnyH_take (i := 6) (v := ?_) rfl (by kernel_rfl) (by kernel_rfl) (by kernel_rfl) (fun _ _ _ h => h) (Or.inl ⟨by rfl, ?_⟩) hHeld ?_
      rotate_left
      · intro w' hSw; try dsimp only at hSw
        go_simp; try (with_reducible rfl)
      try simp only [Act.put, List.getElem_toArray, List.getElem_cons_succ, List.getElem_cons_zero, List.setIfInBounds_toArray, List.set_cons_zero, List.set_cons_succ]
      refine wpAnyH_take (i := 7) (v := ?_) rfl (by kernel_rfl) (by kernel_rfl) (by kernel_rfl) (fun _ _ _ h => h) (Or.inl ⟨by rfl, ?_⟩) hHeld ?_
      rotate_left
      · intro w' hSw; try dsimp only at hSw
        go_simp; try (with_reducible rfl)
      try simp only [Act.put, List.getElem_toArray, List.getElem_cons_succ, List.getElem_cons_zero, List.setIfInBounds_toArray, List.set_cons_zero, List.set_cons_succ]
      refine wpAnyH_ready (rs := [8]) (by kernel_rfl) (by simp) ?_
      refine AllReadyH.cons rfl (fun K hK => ?_) AllReadyH.nil
      have c8 := hgk.drew.cell' q0
      go_simp
      refine hK.out _ _ (hkc.drew.cell' (i := 2) rfl) (fun hHeld => ?_)
      clear hK K
      try simp only [Act.put, List.getElem_toArray, List.getElem_cons_succ, List.getElem_cons_zero, List.setIfInBounds_toArray, List.set_cons_zero, List.set_cons_succ]
      refine wpAnyH_ready (rs := [9]) (by kernel_rfl) (by simp) ?_
      refine AllReadyH.cons rfl (fun K hK => ?_) AllReadyH.nil
      go_simp
      refine (hcp _ (Below.refl _ _).drew).mono ?_
      rintro e w9 ⟨v9, rfl, hp9, hv9, hb9⟩
      obtain ⟨p9, cap9, rfl, _⟩ := hp9.shape
      refine hK.out _ _ ((hkc.drew.kept hb9).cell' (i := 2) rfl) (fun hHeld => ?_)
      clear hK K
      try simp only [Act.put, List.getElem_toArray, List.getElem_cons_succ, List.getElem_cons_zero, List.setIfInBounds_toArray, List.set_cons_zero, List.set_cons_succ]
      refine wpAnyH_take (i := 10) (v := ?_) rfl (by kernel_rfl) (by kernel_rfl) (by kernel_rfl) (fun _ _ _ h => h) (Or.inl ⟨by rfl, ?_⟩) hHeld ?_
      rotate_left
      · intro w' hSw; try dsimp only at hSw
        go_simp; try (with_reducible rfl)
      try simp only [Act.put, List.getElem_toArray, List.getElem_cons_succ, List.getElem_cons_zero, List.setIfInBounds_toArray, List.set_cons_zero, List.set_cons_succ]
      refine wpAnyH_take (i := 11) (v := ?_) rfl (by kernel_rfl) (by kernel_rfl) (by kernel_rfl) (fun _ _ _ h => h) (Or.inl ⟨by rfl, ?_⟩) hHeld ?_
      rotate_left
      · intro w' hSw; try dsimp only at hSw
        go_simp; try (with_reducible rfl)
      try simp only [Act.put, List.getElem_toArray, List.getElem_cons_succ, List.getElem_cons_zero, List.setIfInBounds_toArray, List.set_cons_zero, List.set_cons_succ]
      refine wpAnyH_ready (rs := [12]) (by kernel_rfl) (by simp) ?_
      refine AllReadyH.cons rfl (fun K hK => ?_) AllReadyH.nil
      have hg9 := hgk.drew.kept hb9
      have c12 := hg9.cell' q0
      have f12 := hg9.frozen (k * 4)
      go_simp
      refine hK.out _ _ (((hkc.drew.kept hb9).setOther ⟨g', k * 4, none⟩ _ (by show c' ≠ g'; omega)).cell' (i := 2) rfl) (fun hHeld => ?_)
      clear hK K
      try simp only [Act.put, List.getElem_toArray, List.getElem_cons_succ, List.getElem_cons_zero, List.setIfInBounds_toArray, List.set_cons_zero, List.set_cons_succ]
      refine wpAnyH_done (by kernel_rfl) ?_ _
      refine NoPanic.normal ?_
      clear hHeld c12 f12 hcp
      have tX := Turned.setCell w9 ⟨g', k * 4, none⟩ (.slice p9 b.pages.length cap9)
      have hb9r : Below wr.heap.size wr w9 := (Below.refl _ wr).drew.trans hb9
      have hs9 := hb9r.size
      have hkn : Below w.heap.size w (w9.setCell ⟨g', k * 4, none⟩ (.slice p9 b.pages.length cap9)) := (bt hBr hb9r).setCell (by show w.heap.size ≤ g'; have := HCC.out; omega) _
      have hv9g : ∀ j, (Value.slice p9 b.pages.length cap9).ownBlock = some j → wr.heap.size ≤ j := hv9
      have hnew : CloneAt s c' g' cr' w3.heap.size (.pointer none) (.slice ep el ec) PV (fun i => if i = k then .slice p9 b.pages.length cap9 else Q i) (k + 1) (w9.setCell ⟨g', k * 4, none⟩ (.slice p9 b.pages.length cap9)) := by
        refine ⟨(hkc.drew.kept hb9).setOther _ _ (by show c' ≠ g'; omega), ⟨_, hg9.set (k * 4) (.slice p9 b.pages.length cap9), by rw [List.length_set]; exact hglk, ?_⟩, ?_, ?_, ?_⟩
        · intro i b' hb'
          obtain ⟨r0, r1, r2, r3⟩ := hgck i b' hb'
          have hi : i < s.nb := by rw [← hbll]; exact (List.getElem?_eq_some_iff.1 hb').1
          refine ⟨?_, by rw [List.getElem?_set_ne (by omega)]; exact r1, by rw [List.getElem?_set_ne (by omega)]; exact r2, by rw [List.getElem?_set_ne (by omega)]; exact r3⟩
          by_cases hik : i = k
          · subst hik
            rw [if_pos (Nat.lt_succ_self _), if_pos rfl, List.getElem?_set_self (by rw [hglk]; omega)]
          · rw [List.getElem?_set_ne (by omega), r0]
            by_cases hik2 : i < k
            · rw [if_pos hik2, if_pos (by omega), if_neg hik]
            · rw [if_neg hik2, if_neg (by omega)]
        · intro i b' hi hb'
          by_cases hik : i = k
          · subst hik
            rw [hb] at hb'
            cases hb'
            simp only [if_true]
            exact hp9.same (fun j hj => tX.block j (by have := hv9g j hj; show j ≠ g'; omega))
          · simp only [hik, if_false]
            have hp := hCA.pg i b' (by omega) hb'
            exact (hp.below hb9r).same (fun j hj => tX.block j (by have := (hCA.own i (by omega) j hj).1; show j ≠ g'; omega))
        · intro i hi j hj
          rw [tX.size]
          by_cases hik : i = k
          · simp only [hik, if_true] at hj
            exact ⟨by have := hv9g j hj; omega, hp9.lt hj⟩
          · simp only [hik, if_false] at hj
            have := hCA.own i (by omega) j hj
            exact ⟨this.1, by omega⟩
        · intro i j hi hj hne x hx
          by_cases hik : i = k
          · have hjk : ¬ j = k := fun e => hne (hik.trans e.symm)
            simp only [hik, if_true] at hx
            simp only [hjk, if_false]
            intro h2
            have := (hCA.own j (by omega) x h2).2
            have := hv9g x hx
            omega
          · simp only [hik, if_false] at hx
            by_cases hjk : j = k
            · simp only [hjk, if_true]
              intro h2
              have := (hCA.own i (by omega) x hx).2
              have := hv9g x h2
              omega
            · simp only [hjk, if_false]
              exact hCA.dis i j (by omega) (by omega) hne x hx
      have hsz : (w9.setCell ⟨g', k * 4, none⟩ (.slice p9 b.pages.length cap9)).heap.size = w9.heap.size := tX.size
      generalize w9.setCell ⟨g', k * 4, none⟩ (.slice p9 b.pages.length cap9) = wn at *
      clear hp9 hv9 hb9 tX hg9 hgck
      go_wp2
      go_roundw
      case rel => exact ⟨k + 1, _, by omega, by go_num, hnew, hkn, by omega⟩
      case measure => simp [intOf]; omega
    · obtain rfl : k = s.nb := by omega
      have hkn : ¬ (s.nb : Int) < (s.nb : Int) := by omega
      go_wp2
      go_ret
      obtain ⟨cu, hgk, hglk, hgck⟩ := hCA.row
      have hH := HH.out
      have hcs := HCC.out
      have hf : ∀ k, fpOf c' g' Q s.nb k → w.heap.size ≤ k := by
        rintro k (e | e | ⟨i, hi, e⟩)
        · omega
        · omega
        · have := (hCA.own i hi k e).1; omega
      refine ⟨c', rfl, g', cr', Q, ?_, hf, hBr⟩
      refine ⟨⟨ep, el, ec, hCA.chip, ((HE.out.mono (T := fun k => fpOf c' g' Q s.nb k ∨ (s.z k ∨ fpOf c bb PV s.nb k ∨ wr.heap.size ≤ k)) (fun k hk e => ?_)).keep (T := fun _ => False) (Keep.of_below hBr) (fun _ _ e => e.elim))⟩,
        ⟨cu, hgk, hglk, fun i b hb => ?_⟩, hH.bll, fun i b hb => hCA.pg i b (by rw [← hbll]; exact (List.getElem?_eq_some_iff.1 hb).1) hb, by omega, fun i hi k e => ?_, hCA.dis, hH.nbl, hH.npl, hH.lim, by show s.nb ≤ cr'; omega⟩
      · rcases e with e | e | e | e
        · have := hf k e; omega
        · exact .inr e
        · exact .inl e
        · have := hBr.size; omega
      · have hi : i < s.nb := by rw [← hbll]; exact (List.getElem?_eq_some_iff.1 hb).1
        have := hgck i b hb
        rwa [if_pos hi] at this
      · have := (hCA.own i hi k e).1
        omega
end Go.Proofs.Ythafcnilhloldaa
