/-
  A table in memory of its own.
-/
import Derived.Test.YthibaefoioeghaaPlRet
namespace Go.Proofs.Ythibaefoioeghaa
open Go.RowKit
/-- Rows of unlike types lie apart. -/
theorem owns_ne {w : World} {B B' e e' s s' n m c d : Nat} {p q : Option Addr} {xs ys : List Value} (he : e ≠ e') (h : w.ownsRow B e s (.slice p n c) n xs) (h' : w.ownsRow B' e' s' (.slice q m d) m ys) : ∀ a b, p = some a → q = some b → a.block ≠ b.block := by
  intro a b ha hb hab
  subst ha hb
  rcases h.2 with ⟨h0, _⟩ | ⟨g, cap, cur, hv, _, hh, _⟩
  · simp at h0
  · rcases h'.2 with ⟨h0, _⟩ | ⟨g', cap', cur', hv', _, hh', _⟩
    · simp at h0
    · simp only [Value.slice.injEq, Option.some.injEq] at hv hv'
      rw [hv.1, hv'.1] at hab
      have hab : g = g' := hab
      rw [hab, hh'] at hh
      simp only [Option.some.injEq, Obj.cells.injEq] at hh
      exact he hh.2.1.symm
/-- What copied holds: R' are the logs whose pages are copied. -/
structure CL (w : World) (V : TabV) (T : Tab) (p1 p2 p3 : Option Addr) (c1 c2 c3 : Nat) (R0 R' : List LR) (W : World) : Prop where
  bel : Below w.heap.size w W
  box : Blk W w.heap.size 28 [.int .i64 T.pages, .int .i64 T.logical, .int .i64 T.k, .slice p1 V.nd c1, .slice p2 V.nh c2, .int .i64 T.sp, .int .i64 T.sl, .int .i64 T.su, .slice p3 V.nl c3]
  res : ∃ cs, cs.length = 9 ∧ Blk W (w.heap.size + 1) 28 cs
  d : W.ownsRow (w.heap.size + 2) 3 1 (.slice p1 V.nd c1) V.nd (valsI T.data)
  h : W.ownsRow (w.heap.size + 2) 4 1 (.slice p2 V.nh c2) V.nh (valsB T.have')
  l : W.ownsRow (w.heap.size + 2) 61 2 (.slice p3 V.nl c3) V.nl (flatR (R' ++ R0.drop R'.length))
  r : ∀ (i : Nat) (r : LR), R'[i]? = some r → W.ownsRow (w.heap.size + 2) 3 1 r.v r.pages.length (valsI r.pages)
  map : R'.map LR.log = T.logs.take R'.length
  ap : ∀ (i j : Nat) (r s : LR) (a b : Addr), i ≠ j → R'[i]? = some r → R'[j]? = some s → r.p = some a → s.p = some b → a.block ≠ b.block
  ad : ∀ (i : Nat) (r : LR) (a b : Addr), R'[i]? = some r → r.p = some a → p1 = some b → a.block ≠ b.block
theorem CL.next {w W W' : World} {V : TabV} {T : Tab} {p1 p2 p3 : Option Addr} {c1 c2 c3 : Nat} {R0 R' : List LR} (h : CL w V T p1 p2 p3 c1 c2 c3 R0 R' W) (hb : Below W.heap.size W W') : CL w V T p1 p2 p3 c1 c2 c3 R0 R' W' := by
  obtain ⟨cs, hl, hr⟩ := h.res
  exact ⟨bt h.bel hb, h.box.kept hb, ⟨cs, hl, hr.kept hb⟩, owns_below h.d hb, owns_below h.h hb, owns_below h.l hb, fun i r hi => owns_below (h.r i r hi) hb, h.map, h.ap, h.ad⟩
theorem split_at {R0 R' : List LR} {r : LR} (hr : R0[R'.length]? = some r) : (R' ++ R0.drop R'.length)[R'.length]? = some r := by
  rw [List.getElem?_append_right (Nat.le_refl _), Nat.sub_self, List.getElem?_drop]; exact hr
theorem split_set {R0 R' : List LR} {r x : LR} (hr : R0[R'.length]? = some r) : (R' ++ R0.drop R'.length).set R'.length x = (R' ++ [x]) ++ R0.drop (R' ++ [x]).length := by
  have hlt := (List.getElem?_eq_some_iff.1 hr).1
  rw [List.set_append_right _ _ (Nat.le_refl _), Nat.sub_self, List.drop_eq_getElem_cons hlt, List.set_cons_zero, List.append_assoc]
  simp
theorem snoc_get {R' : List LR} {x r : LR} {i : Nat} (h : (R' ++ [x])[i]? = some r) : R'[i]? = some r ∧ i < R'.length ∨ i = R'.length ∧ r = x := by
  rcases Nat.lt_or_ge i R'.length with h' | h'
  · rw [List.getElem?_append_left h'] at h; exact .inl ⟨h, h'⟩
  · rw [List.getElem?_append_right h'] at h
    have : i - R'.length = 0 := by
      rcases Nat.eq_zero_or_pos (i - R'.length) with e | e
      · exact e
      · rw [List.getElem?_eq_none (by rw [List.length_singleton]; exact e)] at h; simp at h
    rw [this] at h
    simp at h
    exact .inr ⟨by omega, h.symm⟩
theorem OwnT.turned1 {g : Nat} {w w' : World} {V : TabV} {T : Tab} {R : List LR} (h : OwnT (g + 2) w V T R) (ht : Turned w w' (g + 1)) : OwnT (g + 2) w' V T R :=
  ⟨h.logs, owns_turned h.d ht (far_lt1 h.d), owns_turned h.h ht (far_lt1 h.h), owns_turned h.l ht (far_lt1 h.l), fun i r hr => owns_turned (h.r i r hr) ht (far_lt1 (h.r i r hr)), h.ap, h.ad, h.sm⟩
/-- One log's pages more. -/
theorem CL.snoc {w W1 W2 W3 : World} {V : TabV} {T : Tab} {p1 p2 : Option Addr} {g3 c1 c2 c3 : Nat} {R0 R' : List LR} {r0 x : LR} (h : CL w V T p1 p2 (some ⟨g3, 0, none⟩) c1 c2 c3 R0 R' W2) (hr0 : R0[R'.length]? = some r0) (hmap : R0.map LR.log = T.logs)
    (hx : x.phys = r0.phys) (hxp : x.pages = r0.pages) (hs : w.heap.size + 2 ≤ W1.heap.size) (h1 : CL w V T p1 p2 (some ⟨g3, 0, none⟩) c1 c2 c3 R0 R' W1)
    (ho : W2.ownsRow W1.heap.size 3 1 x.v x.pages.length (valsI x.pages)) (ht : Turned W2 W3 g3)
    (hl : W3.ownsRow (w.heap.size + 2) 61 2 (.slice (some ⟨g3, 0, none⟩) V.nl c3) V.nl ((flatR (R' ++ R0.drop R'.length)).set (R'.length * 2 + 1) x.v)) : CL w V T p1 p2 (some ⟨g3, 0, none⟩) c1 c2 c3 R0 (R' ++ [x]) W3 := by
  have hg3 := (h.l.lt g3 rfl).1
  obtain ⟨cs, hcl, hr⟩ := h.res
  have far3 : ∀ (p : Option Addr) (B n c : Nat) (xs : List Value), W2.ownsRow B 3 1 (.slice p n c) n xs → ∀ a, p = some a → a.block ≠ g3 := fun p B n c xs hh a ha => owns_ne (by decide) hh h.l a _ ha rfl
  refine ⟨ht.below h.bel (by omega), h.box.turned ht (by omega), ⟨cs, hcl, hr.turned ht (by omega)⟩, owns_turned h.d ht (far3 _ _ _ _ _ h.d), owns_turned h.h ht (fun a ha => owns_ne (by decide) h.h h.l a _ ha rfl), ?_, fun i r hi => ?_, ?_, fun i j r s a b hij hi hj ha hb => ?_, fun i r a b hi ha hb => ?_⟩
  · rw [flatR_set r0 x (split_at hr0) hx, split_set hr0] at hl
    exact hl
  · rcases snoc_get hi with ⟨hi, _⟩ | ⟨_, rfl⟩
    · exact owns_turned (h.r i r hi) ht (far3 _ _ _ _ _ (h.r i r hi))
    · exact owns_mono (owns_turned ho ht (far3 _ _ _ _ _ ho)) hs
  · rw [List.map_append, h.map, List.length_append, List.length_singleton]
    have hL : T.logs[R'.length]? = some r0.log := by rw [← hmap, List.getElem?_map, hr0]; rfl
    obtain ⟨hlt, he⟩ := List.getElem?_eq_some_iff.1 hL
    rw [List.take_succ_eq_append_getElem hlt, he]
    simp [LR.log, hx, hxp]
  · rcases snoc_get hi with ⟨hi1, _⟩ | ⟨e1, e1'⟩
    · rcases snoc_get hj with ⟨hj1, _⟩ | ⟨_, e2'⟩
      · exact h.ap i j r s a b hij hi1 hj1 ha hb
      · rw [e2'] at hb
        have e1 := (h1.r i r hi1).lt a.block (by rw [LR.v, ha]; rfl)
        have e2 := ho.lt b.block (by rw [LR.v, hb]; rfl)
        omega
    · rcases snoc_get hj with ⟨hj1, _⟩ | ⟨e2, _⟩
      · rw [e1'] at ha
        have e3 := (h1.r j s hj1).lt b.block (by rw [LR.v, hb]; rfl)
        have e4 := ho.lt a.block (by rw [LR.v, ha]; rfl)
        omega
      · omega
  · rcases snoc_get hi with ⟨hi, _⟩ | ⟨_, rfl⟩
    · exact h.ad i r a b hi ha hb
    · have e3 := h1.d.lt b.block (by rw [hb]; rfl)
      have e4 := ho.lt a.block (by rw [LR.v, ha]; rfl)
      omega
set_option linter.unusedSimpArgs false in
set_option maxRecDepth 100000 in
set_option maxHeartbeats 8000000 in
theorem copied_any (V : TabV) (T : Tab) (w : World) (h : TabIn w V T) (hn1 : V.nd ≤ 1000000) (hn2 : V.nh ≤ 1000000) (hn3 : V.nl ≤ 1000000) (hn4 : ∀ (i : Nat) (l : LogS), T.logs[i]? = some l → l.pages.length ≤ 1000000) :
    Calls Try.prog 38 #[.agg (tabA V T)] w fun e w' => ∃ V' R, e = .returned (.agg (tabA V' T)) ∧ V'.nd = V.nd ∧ V'.nh = V.nh ∧ V'.nl = V.nl ∧ OwnT w.heap.size w' V' T R ∧ Below w.heap.size w w' := by
  obtain ⟨R0, hR0, hR0in, hR0c⟩ := logsIn_rows h.logs
  have HR0 : Hid (R0.map LR.log = T.logs) := hR0
  have HR0in : Hid (∀ (i : Nat) (r : LR), R0[i]? = some r → InI w r.p r.pages.length r.c r.pages) := hR0in
  have HL0 : Hid (R0.length = V.nl) := by show _ = _; rw [← List.length_map (f := LR.log), hR0, h.logs.len]
  have hI := fun W' (hb : Below w.heap.size w W') => cloneI_any V.pd V.nd V.cd T.data W' (h.data.below hb) (by omega)
  have hB := fun W' (hb : Below w.heap.size w W') => cloneB_any V.ph V.nh V.ch T.have' W' (h.have'.below hb) (by omega)
  have hblk : ∀ a, V.pl = some a → 0 < V.nl → a.block < w.heap.size := fun a ha h0 => by
    obtain ⟨b, o, hp, hlt, _⟩ := h.logs.at' h0
    rw [ha] at hp; cases hp; exact hlt
  have hG := fun W' (hb : Below w.heap.size w W') => cloneG_any V.pl V.nl V.cl T.logs R0 W' (h.logs.below hb) HL0.out (fun a ha j u hu => by
    have h0 : 0 < V.nl := by
      rw [← HL0.out]
      rcases Nat.eq_zero_or_pos R0.length with e | e
      · rw [List.eq_nil_of_length_eq_zero e] at hu; simp [flatR] at hu
      · exact e
    have e : (a.add j).block = a.block := by unfold Addr.add; split <;> rfl
    exact (hb.cell (p := a.add j) (by rw [e]; exact hblk a ha h0)).trans (hR0c a ha j u hu)) (fun a ha h0 => Nat.lt_of_lt_of_le (hblk a ha h0) hb.size) (by omega)
  have HN4 : Hid (∀ (i : Nat) (l : LogS), T.logs[i]? = some l → l.pages.length ≤ 1000000) := hn4
  have hb0 := bt (below_alloc w (.cells (tabA V T) 28)) (below_alloc (w.alloc (.cells (tabA V T) 28)) (.cells #[.int .i64 0, .int .i64 0, .int .i64 0, .slice none 0 0, .slice none 0 0, .int .i64 0, .int .i64 0, .int .i64 0, .slice none 0 0] 28))
  have b0 := (Blk.new' w 28 (tabA V T)).alloc (.cells #[.int .i64 0, .int .i64 0, .int .i64 0, .slice none 0 0, .slice none 0 0, .int .i64 0, .int .i64 0, .int .i64 0, .slice none 0 0] 28)
  have r0 := Blk.new' (w.alloc (.cells (tabA V T) 28)) 28 #[.int .i64 0, .int .i64 0, .int .i64 0, .slice none 0 0, .slice none 0 0, .int .i64 0, .int .i64 0, .int .i64 0, .slice none 0 0]
  rw [World.size_alloc] at r0
  unfold tabA at hb0 b0 r0 ⊢
  have hnn := hn3
  have hm1 := hn1
  have hm2 := hn2
  clear hR0 hR0in hR0c hblk hn4 h hn1 hn2 hn3
  go_enter Try.func38, Try.ntmps38
  go_upto_region 1 with fail
  go_cut [1] from 5 (fun s1 wc => s1 = .pointer (some ⟨w.heap.size, 0, none⟩) ∧ ∃ p1 c1 p2 c2 p3 c3, Below w.heap.size w wc ∧ Blk wc w.heap.size 28 [.int .i64 T.pages, .int .i64 T.logical, .int .i64 T.k, .slice p1 V.nd c1, .slice p2 V.nh c2, .int .i64 T.sp, .int .i64 T.sl, .int .i64 T.su, .slice p3 V.nl c3] ∧ (∃ cs, cs.length = 9 ∧ Blk wc (w.heap.size + 1) 28 cs) ∧ wc.ownsRow (w.heap.size + 2) 3 1 (.slice p1 V.nd c1) V.nd (valsI T.data) ∧ wc.ownsRow (w.heap.size + 2) 4 1 (.slice p2 V.nh c2) V.nh (valsB T.have') ∧ wc.ownsRow (w.heap.size + 2) 61 2 (.slice p3 V.nl c3) V.nl (flatR R0))
  case first =>
    generalize hW : (w.alloc (.cells #[.int .i64 T.pages, .int .i64 T.logical, .int .i64 T.k, .slice V.pd V.nd V.cd, .slice V.ph V.nh V.ch, .int .i64 T.sp, .int .i64 T.sl, .int .i64 T.su, .slice V.pl V.nl V.cl] 28)).alloc (.cells #[.int .i64 0, .int .i64 0, .int .i64 0, .slice none 0 0, .slice none 0 0, .int .i64 0, .int .i64 0, .int .i64 0, .slice none 0 0] 28) = W0 at *
    have hsz : w.heap.size + 2 ≤ W0.heap.size := by rw [← hW, World.size_alloc, World.size_alloc]; exact Nat.le_refl _
    clear hW
    refine wp_region_noPanic ?_
    refine wp_region_held_drew (S := fun _ => True) (by kernel_rfl) trivial (fun hHeld => ?_)
    have hbel := hb0.drew
    have hbx := b0.drew
    have hrs := r0.drew
    replace hsz : w.heap.size + 2 ≤ W0.drew.heap.size := hsz
    clear hb0 b0 r0
    generalize W0.drew = W0 at *
    refine wpAnyH_take (i := 0) (v := ?_) rfl (by kernel_rfl) (by kernel_rfl) (by kernel_rfl) (fun _ _ _ h => h) (Or.inl ⟨by rfl, ?_⟩) hHeld ?_
    rotate_left
    · intro w' hSw; try dsimp only at hSw
      go_simp; try (with_reducible rfl)
    try simp only [Act.put, List.getElem_toArray, List.getElem_cons_succ, List.getElem_cons_zero, List.setIfInBounds_toArray, List.set_cons_zero, List.set_cons_succ]
    refine wpAnyH_take (i := 3) (v := ?_) rfl (by kernel_rfl) (by kernel_rfl) (by kernel_rfl) (fun _ _ _ h => h) (Or.inl ⟨by rfl, ?_⟩) hHeld ?_
    rotate_left
    · intro w' hSw; try dsimp only at hSw
      go_simp; try (with_reducible rfl)
    try simp only [Act.put, List.getElem_toArray, List.getElem_cons_succ, List.getElem_cons_zero, List.setIfInBounds_toArray, List.set_cons_zero, List.set_cons_succ]
    refine wpAnyH_take (i := 6) (v := ?_) rfl (by kernel_rfl) (by kernel_rfl) (by kernel_rfl) (fun _ _ _ h => h) (Or.inl ⟨by rfl, ?_⟩) hHeld ?_
    rotate_left
    · intro w' hSw; try dsimp only at hSw
      go_simp; try (with_reducible rfl)
    try simp only [Act.put, List.getElem_toArray, List.getElem_cons_succ, List.getElem_cons_zero, List.setIfInBounds_toArray, List.set_cons_zero, List.set_cons_succ]
    refine wpAnyH_ready (rs := [1, 4, 7]) (by kernel_rfl) (by simp) ?_
    refine AllReadyH.cons rfl (fun K hK => ?_) ?_
    · have z := hbx.cell' (i := 3) rfl
      go_simp
      refine hK.out _ _ trivial (fun hHeld => ?_)
      clear hK K
      try simp only [Act.put, List.getElem_toArray, List.getElem_cons_succ, List.getElem_cons_zero, List.setIfInBounds_toArray, List.set_cons_zero, List.set_cons_succ]
      clear z
      refine wpAnyH_ready (rs := [2, 4, 7]) (by kernel_rfl) (by simp) ?_
      refine AllReadyH.cons rfl (fun K hK => ?_) ?_
      · go_simp
        refine (hI _ hbel).mono ?_
        rintro e W1 ⟨v, rfl, ⟨p1, c1, rfl⟩, o1, k1⟩
        try go_wp2_with fail
        refine hK.out _ _ trivial (fun hHeld => ?_)
        clear hK K
        try simp only [Act.put, List.getElem_toArray, List.getElem_cons_succ, List.getElem_cons_zero, List.setIfInBounds_toArray, List.set_cons_zero, List.set_cons_succ]
        replace hbx := hbx.kept k1
        replace hrs := hrs.kept k1
        replace hbel := bt hbel k1
        replace o1 := owns_mono o1 hsz
        replace hsz := Nat.le_trans hsz k1.size
        clear k1
        refine wpAnyH_ready (rs := [4, 7]) (by kernel_rfl) (by simp) ?_
        refine AllReadyH.cons rfl (fun K hK => ?_) ?_
        · have z := hbx.cell' (i := 4) rfl
          go_simp
          refine hK.out _ _ trivial (fun hHeld => ?_)
          clear hK K
          try simp only [Act.put, List.getElem_toArray, List.getElem_cons_succ, List.getElem_cons_zero, List.setIfInBounds_toArray, List.set_cons_zero, List.set_cons_succ]
          clear z
          refine wpAnyH_ready (rs := [5, 7]) (by kernel_rfl) (by simp) ?_
          refine AllReadyH.cons rfl (fun K hK => ?_) ?_
          · go_simp
            refine (hB _ hbel).mono ?_
            rintro e W2 ⟨v, rfl, ⟨p2, c2, rfl⟩, o2, k2⟩
            try go_wp2_with fail
            refine hK.out _ _ trivial (fun hHeld => ?_)
            clear hK K
            try simp only [Act.put, List.getElem_toArray, List.getElem_cons_succ, List.getElem_cons_zero, List.setIfInBounds_toArray, List.set_cons_zero, List.set_cons_succ]
            replace hbx := hbx.kept k2
            replace hrs := hrs.kept k2
            replace hbel := bt hbel k2
            replace o1 := owns_below o1 k2
            replace o2 := owns_mono o2 hsz
            replace hsz := Nat.le_trans hsz k2.size
            clear k2
            refine wpAnyH_ready (rs := [7]) (by kernel_rfl) (by simp) ?_
            refine AllReadyH.cons rfl (fun K hK => ?_) AllReadyH.nil
            have z := hbx.cell' (i := 8) rfl
            go_simp
            refine hK.out _ _ trivial (fun hHeld => ?_)
            clear hK K
            try simp only [Act.put, List.getElem_toArray, List.getElem_cons_succ, List.getElem_cons_zero, List.setIfInBounds_toArray, List.set_cons_zero, List.set_cons_succ]
            clear z
            refine wpAnyH_take (i := 9) (v := ?_) rfl (by kernel_rfl) (by kernel_rfl) (by kernel_rfl) (fun _ _ _ h => h) (Or.inl ⟨by rfl, ?_⟩) hHeld ?_
            rotate_left
            · intro w' hSw; try dsimp only at hSw
              go_simp; try (with_reducible rfl)
            try simp only [Act.put, List.getElem_toArray, List.getElem_cons_succ, List.getElem_cons_zero, List.setIfInBounds_toArray, List.set_cons_zero, List.set_cons_succ]
            refine wpAnyH_ready (rs := [8]) (by kernel_rfl) (by simp) ?_
            refine AllReadyH.cons rfl (fun K hK => ?_) AllReadyH.nil
            go_simp
            refine (hG _ hbel).mono ?_
            rintro e W3 ⟨v, rfl, ⟨p3, c3, rfl⟩, o3, k3⟩
            try go_wp2_with fail
            refine hK.out _ _ trivial (fun hHeld => ?_)
            clear hK K
            try simp only [Act.put, List.getElem_toArray, List.getElem_cons_succ, List.getElem_cons_zero, List.setIfInBounds_toArray, List.set_cons_zero, List.set_cons_succ]
            replace hbx := hbx.kept k3
            replace hrs := hrs.kept k3
            replace hbel := bt hbel k3
            replace o1 := owns_below o1 k3
            replace o2 := owns_below o2 k3
            replace o3 := owns_mono o3 hsz
            replace hsz := Nat.le_trans hsz k3.size
            clear k3
            refine wpAnyH_ready (rs := [10]) (by kernel_rfl) (by simp) ?_
            refine AllReadyH.cons rfl (fun K hK => ?_) AllReadyH.nil
            rw [if_pos (by rfl)]
            refine wp_store_cell 22 (.tmp 14) (.tmp 7) rfl _ 3 (.slice p1 V.nd c1) rfl rfl hbx (by simp) (by kernel_rfl) rfl ?_
            intro Wn hbn htn
            replace hbel := htn.below hbel (Nat.le_refl _)
            replace hrs := hrs.turned htn (by omega)
            replace o1 := owns_turned o1 htn (far_lt o1)
            replace o2 := owns_turned o2 htn (far_lt o2)
            replace o3 := owns_turned o3 htn (far_lt o3)
            clear hbx
            have hbx := hbn
            clear hbn htn
            refine hK.out _ _ trivial (fun hHeld => ?_)
            clear hK K
            try simp only [Act.put, List.getElem_toArray, List.getElem_cons_succ, List.getElem_cons_zero, List.setIfInBounds_toArray, List.set_cons_zero, List.set_cons_succ]
            refine wpAnyH_take (i := 11) (v := ?_) rfl (by kernel_rfl) (by kernel_rfl) (by kernel_rfl) (fun _ _ _ h => h) (Or.inl ⟨by rfl, ?_⟩) hHeld ?_
            rotate_left
            · intro w' hSw; try dsimp only at hSw
              go_simp; try (with_reducible rfl)
            try simp only [Act.put, List.getElem_toArray, List.getElem_cons_succ, List.getElem_cons_zero, List.setIfInBounds_toArray, List.set_cons_zero, List.set_cons_succ]
            refine wpAnyH_ready (rs := [12]) (by kernel_rfl) (by simp) ?_
            refine AllReadyH.cons rfl (fun K hK => ?_) AllReadyH.nil
            rw [if_pos (by rfl)]
            refine wp_store_cell 23 (.tmp 15) (.tmp 10) rfl _ 4 (.slice p2 V.nh c2) rfl rfl hbx (by simp) (by kernel_rfl) rfl ?_
            intro Wn hbn htn
            replace hbel := htn.below hbel (Nat.le_refl _)
            replace hrs := hrs.turned htn (by omega)
            replace o1 := owns_turned o1 htn (far_lt o1)
            replace o2 := owns_turned o2 htn (far_lt o2)
            replace o3 := owns_turned o3 htn (far_lt o3)
            clear hbx
            have hbx := hbn
            clear hbn htn
            refine hK.out _ _ trivial (fun hHeld => ?_)
            clear hK K
            try simp only [Act.put, List.getElem_toArray, List.getElem_cons_succ, List.getElem_cons_zero, List.setIfInBounds_toArray, List.set_cons_zero, List.set_cons_succ]
            refine wpAnyH_take (i := 13) (v := ?_) rfl (by kernel_rfl) (by kernel_rfl) (by kernel_rfl) (fun _ _ _ h => h) (Or.inl ⟨by rfl, ?_⟩) hHeld ?_
            rotate_left
            · intro w' hSw; try dsimp only at hSw
              go_simp; try (with_reducible rfl)
            try simp only [Act.put, List.getElem_toArray, List.getElem_cons_succ, List.getElem_cons_zero, List.setIfInBounds_toArray, List.set_cons_zero, List.set_cons_succ]
            refine wpAnyH_ready (rs := [14]) (by kernel_rfl) (by simp) ?_
            refine AllReadyH.cons rfl (fun K hK => ?_) AllReadyH.nil
            rw [if_pos (by rfl)]
            refine wp_store_cell 26 (.tmp 16) (.tmp 13) rfl _ 8 (.slice p3 V.nl c3) rfl rfl hbx (by simp) (by kernel_rfl) rfl ?_
            intro Wn hbn htn
            replace hbel := htn.below hbel (Nat.le_refl _)
            replace hrs := hrs.turned htn (by omega)
            replace o1 := owns_turned o1 htn (far_lt o1)
            replace o2 := owns_turned o2 htn (far_lt o2)
            replace o3 := owns_turned o3 htn (far_lt o3)
            clear hbx
            have hbx := hbn
            clear hbn htn
            refine hK.out _ _ trivial (fun hHeld => ?_)
            clear hK K
            try simp only [Act.put, List.getElem_toArray, List.getElem_cons_succ, List.getElem_cons_zero, List.setIfInBounds_toArray, List.set_cons_zero, List.set_cons_succ]
            refine wpAnyH_done (by kernel_rfl) ?_ _
            refine NoPanic.normal ?_
            go_wp2_with fail
            go_meet
            case rel => exact ⟨rfl, p1, c1, p2, c2, p3, c3, hbel, hbx, ⟨_, rfl, hrs⟩, o1, o2, o3⟩
          refine AllReadyH.cons rfl (fun K hK => ?_) AllReadyH.nil
          have z := hbx.cell' (i := 8) rfl
          go_simp
          refine hK.out _ _ trivial (fun hHeld => ?_)
          clear hK K
          try simp only [Act.put, List.getElem_toArray, List.getElem_cons_succ, List.getElem_cons_zero, List.setIfInBounds_toArray, List.set_cons_zero, List.set_cons_succ]
          clear z
          refine wpAnyH_take (i := 9) (v := ?_) rfl (by kernel_rfl) (by kernel_rfl) (by kernel_rfl) (fun _ _ _ h => h) (Or.inl ⟨by rfl, ?_⟩) hHeld ?_
          rotate_left
          · intro w' hSw; try dsimp only at hSw
            go_simp; try (with_reducible rfl)
          try simp only [Act.put, List.getElem_toArray, List.getElem_cons_succ, List.getElem_cons_zero, List.setIfInBounds_toArray, List.set_cons_zero, List.set_cons_succ]
          refine wpAnyH_ready (rs := [5]) (by kernel_rfl) (by simp) ?_
          refine AllReadyH.cons rfl (fun K hK => ?_) AllReadyH.nil
          go_simp
          refine (hB _ hbel).mono ?_
          rintro e W2 ⟨v, rfl, ⟨p2, c2, rfl⟩, o2, k2⟩
          try go_wp2_with fail
          refine hK.out _ _ trivial (fun hHeld => ?_)
          clear hK K
          try simp only [Act.put, List.getElem_toArray, List.getElem_cons_succ, List.getElem_cons_zero, List.setIfInBounds_toArray, List.set_cons_zero, List.set_cons_succ]
          replace hbx := hbx.kept k2
          replace hrs := hrs.kept k2
          replace hbel := bt hbel k2
          replace o1 := owns_below o1 k2
          replace o2 := owns_mono o2 hsz
          replace hsz := Nat.le_trans hsz k2.size
          clear k2
          refine wpAnyH_ready (rs := [8]) (by kernel_rfl) (by simp) ?_
          refine AllReadyH.cons rfl (fun K hK => ?_) AllReadyH.nil
          go_simp
          refine (hG _ hbel).mono ?_
          rintro e W3 ⟨v, rfl, ⟨p3, c3, rfl⟩, o3, k3⟩
          try go_wp2_with fail
          refine hK.out _ _ trivial (fun hHeld => ?_)
          clear hK K
          try simp only [Act.put, List.getElem_toArray, List.getElem_cons_succ, List.getElem_cons_zero, List.setIfInBounds_toArray, List.set_cons_zero, List.set_cons_succ]
          replace hbx := hbx.kept k3
          replace hrs := hrs.kept k3
          replace hbel := bt hbel k3
          replace o1 := owns_below o1 k3
          replace o2 := owns_below o2 k3
          replace o3 := owns_mono o3 hsz
          replace hsz := Nat.le_trans hsz k3.size
          clear k3
          refine wpAnyH_ready (rs := [10]) (by kernel_rfl) (by simp) ?_
          refine AllReadyH.cons rfl (fun K hK => ?_) AllReadyH.nil
          rw [if_pos (by rfl)]
          refine wp_store_cell 22 (.tmp 14) (.tmp 7) rfl _ 3 (.slice p1 V.nd c1) rfl rfl hbx (by simp) (by kernel_rfl) rfl ?_
          intro Wn hbn htn
          replace hbel := htn.below hbel (Nat.le_refl _)
          replace hrs := hrs.turned htn (by omega)
          replace o1 := owns_turned o1 htn (far_lt o1)
          replace o2 := owns_turned o2 htn (far_lt o2)
          replace o3 := owns_turned o3 htn (far_lt o3)
          clear hbx
          have hbx := hbn
          clear hbn htn
          refine hK.out _ _ trivial (fun hHeld => ?_)
          clear hK K
          try simp only [Act.put, List.getElem_toArray, List.getElem_cons_succ, List.getElem_cons_zero, List.setIfInBounds_toArray, List.set_cons_zero, List.set_cons_succ]
          refine wpAnyH_take (i := 11) (v := ?_) rfl (by kernel_rfl) (by kernel_rfl) (by kernel_rfl) (fun _ _ _ h => h) (Or.inl ⟨by rfl, ?_⟩) hHeld ?_
          rotate_left
          · intro w' hSw; try dsimp only at hSw
            go_simp; try (with_reducible rfl)
          try simp only [Act.put, List.getElem_toArray, List.getElem_cons_succ, List.getElem_cons_zero, List.setIfInBounds_toArray, List.set_cons_zero, List.set_cons_succ]
          refine wpAnyH_ready (rs := [12]) (by kernel_rfl) (by simp) ?_
          refine AllReadyH.cons rfl (fun K hK => ?_) AllReadyH.nil
          rw [if_pos (by rfl)]
          refine wp_store_cell 23 (.tmp 15) (.tmp 10) rfl _ 4 (.slice p2 V.nh c2) rfl rfl hbx (by simp) (by kernel_rfl) rfl ?_
          intro Wn hbn htn
          replace hbel := htn.below hbel (Nat.le_refl _)
          replace hrs := hrs.turned htn (by omega)
          replace o1 := owns_turned o1 htn (far_lt o1)
          replace o2 := owns_turned o2 htn (far_lt o2)
          replace o3 := owns_turned o3 htn (far_lt o3)
          clear hbx
          have hbx := hbn
          clear hbn htn
          refine hK.out _ _ trivial (fun hHeld => ?_)
          clear hK K
          try simp only [Act.put, List.getElem_toArray, List.getElem_cons_succ, List.getElem_cons_zero, List.setIfInBounds_toArray, List.set_cons_zero, List.set_cons_succ]
          refine wpAnyH_take (i := 13) (v := ?_) rfl (by kernel_rfl) (by kernel_rfl) (by kernel_rfl) (fun _ _ _ h => h) (Or.inl ⟨by rfl, ?_⟩) hHeld ?_
          rotate_left
          · intro w' hSw; try dsimp only at hSw
            go_simp; try (with_reducible rfl)
          try simp only [Act.put, List.getElem_toArray, List.getElem_cons_succ, List.getElem_cons_zero, List.setIfInBounds_toArray, List.set_cons_zero, List.set_cons_succ]
          refine wpAnyH_ready (rs := [14]) (by kernel_rfl) (by simp) ?_
          refine AllReadyH.cons rfl (fun K hK => ?_) AllReadyH.nil
          rw [if_pos (by rfl)]
          refine wp_store_cell 26 (.tmp 16) (.tmp 13) rfl _ 8 (.slice p3 V.nl c3) rfl rfl hbx (by simp) (by kernel_rfl) rfl ?_
          intro Wn hbn htn
          replace hbel := htn.below hbel (Nat.le_refl _)
          replace hrs := hrs.turned htn (by omega)
          replace o1 := owns_turned o1 htn (far_lt o1)
          replace o2 := owns_turned o2 htn (far_lt o2)
          replace o3 := owns_turned o3 htn (far_lt o3)
          clear hbx
          have hbx := hbn
          clear hbn htn
          refine hK.out _ _ trivial (fun hHeld => ?_)
          clear hK K
          try simp only [Act.put, List.getElem_toArray, List.getElem_cons_succ, List.getElem_cons_zero, List.setIfInBounds_toArray, List.set_cons_zero, List.set_cons_succ]
          refine wpAnyH_done (by kernel_rfl) ?_ _
          refine NoPanic.normal ?_
          go_wp2_with fail
          go_meet
          case rel => exact ⟨rfl, p1, c1, p2, c2, p3, c3, hbel, hbx, ⟨_, rfl, hrs⟩, o1, o2, o3⟩
        refine AllReadyH.cons rfl (fun K hK => ?_) AllReadyH.nil
        have z := hbx.cell' (i := 8) rfl
        go_simp
        refine hK.out _ _ trivial (fun hHeld => ?_)
        clear hK K
        try simp only [Act.put, List.getElem_toArray, List.getElem_cons_succ, List.getElem_cons_zero, List.setIfInBounds_toArray, List.set_cons_zero, List.set_cons_succ]
        clear z
        refine wpAnyH_ready (rs := [4]) (by kernel_rfl) (by simp) ?_
        refine AllReadyH.cons rfl (fun K hK => ?_) AllReadyH.nil
        have z := hbx.cell' (i := 4) rfl
        go_simp
        refine hK.out _ _ trivial (fun hHeld => ?_)
        clear hK K
        try simp only [Act.put, List.getElem_toArray, List.getElem_cons_succ, List.getElem_cons_zero, List.setIfInBounds_toArray, List.set_cons_zero, List.set_cons_succ]
        clear z
        refine wpAnyH_take (i := 9) (v := ?_) rfl (by kernel_rfl) (by kernel_rfl) (by kernel_rfl) (fun _ _ _ h => h) (Or.inl ⟨by rfl, ?_⟩) hHeld ?_
        rotate_left
        · intro w' hSw; try dsimp only at hSw
          go_simp; try (with_reducible rfl)
        try simp only [Act.put, List.getElem_toArray, List.getElem_cons_succ, List.getElem_cons_zero, List.setIfInBounds_toArray, List.set_cons_zero, List.set_cons_succ]
        refine wpAnyH_ready (rs := [5]) (by kernel_rfl) (by simp) ?_
        refine AllReadyH.cons rfl (fun K hK => ?_) AllReadyH.nil
        go_simp
        refine (hB _ hbel).mono ?_
        rintro e W2 ⟨v, rfl, ⟨p2, c2, rfl⟩, o2, k2⟩
        try go_wp2_with fail
        refine hK.out _ _ trivial (fun hHeld => ?_)
        clear hK K
        try simp only [Act.put, List.getElem_toArray, List.getElem_cons_succ, List.getElem_cons_zero, List.setIfInBounds_toArray, List.set_cons_zero, List.set_cons_succ]
        replace hbx := hbx.kept k2
        replace hrs := hrs.kept k2
        replace hbel := bt hbel k2
        replace o1 := owns_below o1 k2
        replace o2 := owns_mono o2 hsz
        replace hsz := Nat.le_trans hsz k2.size
        clear k2
        refine wpAnyH_ready (rs := [8]) (by kernel_rfl) (by simp) ?_
        refine AllReadyH.cons rfl (fun K hK => ?_) AllReadyH.nil
        go_simp
        refine (hG _ hbel).mono ?_
        rintro e W3 ⟨v, rfl, ⟨p3, c3, rfl⟩, o3, k3⟩
        try go_wp2_with fail
        refine hK.out _ _ trivial (fun hHeld => ?_)
        clear hK K
        try simp only [Act.put, List.getElem_toArray, List.getElem_cons_succ, List.getElem_cons_zero, List.setIfInBounds_toArray, List.set_cons_zero, List.set_cons_succ]
        replace hbx := hbx.kept k3
        replace hrs := hrs.kept k3
        replace hbel := bt hbel k3
        replace o1 := owns_below o1 k3
        replace o2 := owns_below o2 k3
        replace o3 := owns_mono o3 hsz
        replace hsz := Nat.le_trans hsz k3.size
        clear k3
        refine wpAnyH_ready (rs := [10]) (by kernel_rfl) (by simp) ?_
        refine AllReadyH.cons rfl (fun K hK => ?_) AllReadyH.nil
        rw [if_pos (by rfl)]
        refine wp_store_cell 22 (.tmp 14) (.tmp 7) rfl _ 3 (.slice p1 V.nd c1) rfl rfl hbx (by simp) (by kernel_rfl) rfl ?_
        intro Wn hbn htn
        replace hbel := htn.below hbel (Nat.le_refl _)
        replace hrs := hrs.turned htn (by omega)
        replace o1 := owns_turned o1 htn (far_lt o1)
        replace o2 := owns_turned o2 htn (far_lt o2)
        replace o3 := owns_turned o3 htn (far_lt o3)
        clear hbx
        have hbx := hbn
        clear hbn htn
        refine hK.out _ _ trivial (fun hHeld => ?_)
        clear hK K
        try simp only [Act.put, List.getElem_toArray, List.getElem_cons_succ, List.getElem_cons_zero, List.setIfInBounds_toArray, List.set_cons_zero, List.set_cons_succ]
        refine wpAnyH_take (i := 11) (v := ?_) rfl (by kernel_rfl) (by kernel_rfl) (by kernel_rfl) (fun _ _ _ h => h) (Or.inl ⟨by rfl, ?_⟩) hHeld ?_
        rotate_left
        · intro w' hSw; try dsimp only at hSw
          go_simp; try (with_reducible rfl)
        try simp only [Act.put, List.getElem_toArray, List.getElem_cons_succ, List.getElem_cons_zero, List.setIfInBounds_toArray, List.set_cons_zero, List.set_cons_succ]
        refine wpAnyH_ready (rs := [12]) (by kernel_rfl) (by simp) ?_
        refine AllReadyH.cons rfl (fun K hK => ?_) AllReadyH.nil
        rw [if_pos (by rfl)]
        refine wp_store_cell 23 (.tmp 15) (.tmp 10) rfl _ 4 (.slice p2 V.nh c2) rfl rfl hbx (by simp) (by kernel_rfl) rfl ?_
        intro Wn hbn htn
        replace hbel := htn.below hbel (Nat.le_refl _)
        replace hrs := hrs.turned htn (by omega)
        replace o1 := owns_turned o1 htn (far_lt o1)
        replace o2 := owns_turned o2 htn (far_lt o2)
        replace o3 := owns_turned o3 htn (far_lt o3)
        clear hbx
        have hbx := hbn
        clear hbn htn
        refine hK.out _ _ trivial (fun hHeld => ?_)
        clear hK K
        try simp only [Act.put, List.getElem_toArray, List.getElem_cons_succ, List.getElem_cons_zero, List.setIfInBounds_toArray, List.set_cons_zero, List.set_cons_succ]
        refine wpAnyH_take (i := 13) (v := ?_) rfl (by kernel_rfl) (by kernel_rfl) (by kernel_rfl) (fun _ _ _ h => h) (Or.inl ⟨by rfl, ?_⟩) hHeld ?_
        rotate_left
        · intro w' hSw; try dsimp only at hSw
          go_simp; try (with_reducible rfl)
        try simp only [Act.put, List.getElem_toArray, List.getElem_cons_succ, List.getElem_cons_zero, List.setIfInBounds_toArray, List.set_cons_zero, List.set_cons_succ]
        refine wpAnyH_ready (rs := [14]) (by kernel_rfl) (by simp) ?_
        refine AllReadyH.cons rfl (fun K hK => ?_) AllReadyH.nil
        rw [if_pos (by rfl)]
        refine wp_store_cell 26 (.tmp 16) (.tmp 13) rfl _ 8 (.slice p3 V.nl c3) rfl rfl hbx (by simp) (by kernel_rfl) rfl ?_
        intro Wn hbn htn
        replace hbel := htn.below hbel (Nat.le_refl _)
        replace hrs := hrs.turned htn (by omega)
        replace o1 := owns_turned o1 htn (far_lt o1)
        replace o2 := owns_turned o2 htn (far_lt o2)
        replace o3 := owns_turned o3 htn (far_lt o3)
        clear hbx
        have hbx := hbn
        clear hbn htn
        refine hK.out _ _ trivial (fun hHeld => ?_)
        clear hK K
        try simp only [Act.put, List.getElem_toArray, List.getElem_cons_succ, List.getElem_cons_zero, List.setIfInBounds_toArray, List.set_cons_zero, List.set_cons_succ]
        refine wpAnyH_done (by kernel_rfl) ?_ _
        refine NoPanic.normal ?_
        go_wp2_with fail
        go_meet
        case rel => exact ⟨rfl, p1, c1, p2, c2, p3, c3, hbel, hbx, ⟨_, rfl, hrs⟩, o1, o2, o3⟩
      refine AllReadyH.cons rfl (fun K hK => ?_) ?_
      · have z := hbx.cell' (i := 4) rfl
        go_simp
        refine hK.out _ _ trivial (fun hHeld => ?_)
        clear hK K
        try simp only [Act.put, List.getElem_toArray, List.getElem_cons_succ, List.getElem_cons_zero, List.setIfInBounds_toArray, List.set_cons_zero, List.set_cons_succ]
        clear z
        refine wpAnyH_ready (rs := [2, 7]) (by kernel_rfl) (by simp) ?_
        refine AllReadyH.cons rfl (fun K hK => ?_) ?_
        · go_simp
          refine (hI _ hbel).mono ?_
          rintro e W1 ⟨v, rfl, ⟨p1, c1, rfl⟩, o1, k1⟩
          try go_wp2_with fail
          refine hK.out _ _ trivial (fun hHeld => ?_)
          clear hK K
          try simp only [Act.put, List.getElem_toArray, List.getElem_cons_succ, List.getElem_cons_zero, List.setIfInBounds_toArray, List.set_cons_zero, List.set_cons_succ]
          replace hbx := hbx.kept k1
          replace hrs := hrs.kept k1
          replace hbel := bt hbel k1
          replace o1 := owns_mono o1 hsz
          replace hsz := Nat.le_trans hsz k1.size
          clear k1
          refine wpAnyH_ready (rs := [5, 7]) (by kernel_rfl) (by simp) ?_
          refine AllReadyH.cons rfl (fun K hK => ?_) ?_
          · go_simp
            refine (hB _ hbel).mono ?_
            rintro e W2 ⟨v, rfl, ⟨p2, c2, rfl⟩, o2, k2⟩
            try go_wp2_with fail
            refine hK.out _ _ trivial (fun hHeld => ?_)
            clear hK K
            try simp only [Act.put, List.getElem_toArray, List.getElem_cons_succ, List.getElem_cons_zero, List.setIfInBounds_toArray, List.set_cons_zero, List.set_cons_succ]
            replace hbx := hbx.kept k2
            replace hrs := hrs.kept k2
            replace hbel := bt hbel k2
            replace o1 := owns_below o1 k2
            replace o2 := owns_mono o2 hsz
            replace hsz := Nat.le_trans hsz k2.size
            clear k2
            refine wpAnyH_ready (rs := [7]) (by kernel_rfl) (by simp) ?_
            refine AllReadyH.cons rfl (fun K hK => ?_) AllReadyH.nil
            have z := hbx.cell' (i := 8) rfl
            go_simp
            refine hK.out _ _ trivial (fun hHeld => ?_)
            clear hK K
            try simp only [Act.put, List.getElem_toArray, List.getElem_cons_succ, List.getElem_cons_zero, List.setIfInBounds_toArray, List.set_cons_zero, List.set_cons_succ]
            clear z
            refine wpAnyH_take (i := 9) (v := ?_) rfl (by kernel_rfl) (by kernel_rfl) (by kernel_rfl) (fun _ _ _ h => h) (Or.inl ⟨by rfl, ?_⟩) hHeld ?_
            rotate_left
            · intro w' hSw; try dsimp only at hSw
              go_simp; try (with_reducible rfl)
            try simp only [Act.put, List.getElem_toArray, List.getElem_cons_succ, List.getElem_cons_zero, List.setIfInBounds_toArray, List.set_cons_zero, List.set_cons_succ]
            refine wpAnyH_ready (rs := [8]) (by kernel_rfl) (by simp) ?_
            refine AllReadyH.cons rfl (fun K hK => ?_) AllReadyH.nil
            go_simp
            refine (hG _ hbel).mono ?_
            rintro e W3 ⟨v, rfl, ⟨p3, c3, rfl⟩, o3, k3⟩
            try go_wp2_with fail
            refine hK.out _ _ trivial (fun hHeld => ?_)
            clear hK K
            try simp only [Act.put, List.getElem_toArray, List.getElem_cons_succ, List.getElem_cons_zero, List.setIfInBounds_toArray, List.set_cons_zero, List.set_cons_succ]
            replace hbx := hbx.kept k3
            replace hrs := hrs.kept k3
            replace hbel := bt hbel k3
            replace o1 := owns_below o1 k3
            replace o2 := owns_below o2 k3
            replace o3 := owns_mono o3 hsz
            replace hsz := Nat.le_trans hsz k3.size
            clear k3
            refine wpAnyH_ready (rs := [10]) (by kernel_rfl) (by simp) ?_
            refine AllReadyH.cons rfl (fun K hK => ?_) AllReadyH.nil
            rw [if_pos (by rfl)]
            refine wp_store_cell 22 (.tmp 14) (.tmp 7) rfl _ 3 (.slice p1 V.nd c1) rfl rfl hbx (by simp) (by kernel_rfl) rfl ?_
            intro Wn hbn htn
            replace hbel := htn.below hbel (Nat.le_refl _)
            replace hrs := hrs.turned htn (by omega)
            replace o1 := owns_turned o1 htn (far_lt o1)
            replace o2 := owns_turned o2 htn (far_lt o2)
            replace o3 := owns_turned o3 htn (far_lt o3)
            clear hbx
            have hbx := hbn
            clear hbn htn
            refine hK.out _ _ trivial (fun hHeld => ?_)
            clear hK K
            try simp only [Act.put, List.getElem_toArray, List.getElem_cons_succ, List.getElem_cons_zero, List.setIfInBounds_toArray, List.set_cons_zero, List.set_cons_succ]
            refine wpAnyH_take (i := 11) (v := ?_) rfl (by kernel_rfl) (by kernel_rfl) (by kernel_rfl) (fun _ _ _ h => h) (Or.inl ⟨by rfl, ?_⟩) hHeld ?_
            rotate_left
            · intro w' hSw; try dsimp only at hSw
              go_simp; try (with_reducible rfl)
            try simp only [Act.put, List.getElem_toArray, List.getElem_cons_succ, List.getElem_cons_zero, List.setIfInBounds_toArray, List.set_cons_zero, List.set_cons_succ]
            refine wpAnyH_ready (rs := [12]) (by kernel_rfl) (by simp) ?_
            refine AllReadyH.cons rfl (fun K hK => ?_) AllReadyH.nil
            rw [if_pos (by rfl)]
            refine wp_store_cell 23 (.tmp 15) (.tmp 10) rfl _ 4 (.slice p2 V.nh c2) rfl rfl hbx (by simp) (by kernel_rfl) rfl ?_
            intro Wn hbn htn
            replace hbel := htn.below hbel (Nat.le_refl _)
            replace hrs := hrs.turned htn (by omega)
            replace o1 := owns_turned o1 htn (far_lt o1)
            replace o2 := owns_turned o2 htn (far_lt o2)
            replace o3 := owns_turned o3 htn (far_lt o3)
            clear hbx
            have hbx := hbn
            clear hbn htn
            refine hK.out _ _ trivial (fun hHeld => ?_)
            clear hK K
            try simp only [Act.put, List.getElem_toArray, List.getElem_cons_succ, List.getElem_cons_zero, List.setIfInBounds_toArray, List.set_cons_zero, List.set_cons_succ]
            refine wpAnyH_take (i := 13) (v := ?_) rfl (by kernel_rfl) (by kernel_rfl) (by kernel_rfl) (fun _ _ _ h => h) (Or.inl ⟨by rfl, ?_⟩) hHeld ?_
            rotate_left
            · intro w' hSw; try dsimp only at hSw
              go_simp; try (with_reducible rfl)
            try simp only [Act.put, List.getElem_toArray, List.getElem_cons_succ, List.getElem_cons_zero, List.setIfInBounds_toArray, List.set_cons_zero, List.set_cons_succ]
            refine wpAnyH_ready (rs := [14]) (by kernel_rfl) (by simp) ?_
            refine AllReadyH.cons rfl (fun K hK => ?_) AllReadyH.nil
            rw [if_pos (by rfl)]
            refine wp_store_cell 26 (.tmp 16) (.tmp 13) rfl _ 8 (.slice p3 V.nl c3) rfl rfl hbx (by simp) (by kernel_rfl) rfl ?_
            intro Wn hbn htn
            replace hbel := htn.below hbel (Nat.le_refl _)
            replace hrs := hrs.turned htn (by omega)
            replace o1 := owns_turned o1 htn (far_lt o1)
            replace o2 := owns_turned o2 htn (far_lt o2)
            replace o3 := owns_turned o3 htn (far_lt o3)
            clear hbx
            have hbx := hbn
            clear hbn htn
            refine hK.out _ _ trivial (fun hHeld => ?_)
            clear hK K
            try simp only [Act.put, List.getElem_toArray, List.getElem_cons_succ, List.getElem_cons_zero, List.setIfInBounds_toArray, List.set_cons_zero, List.set_cons_succ]
            refine wpAnyH_done (by kernel_rfl) ?_ _
            refine NoPanic.normal ?_
            go_wp2_with fail
            go_meet
            case rel => exact ⟨rfl, p1, c1, p2, c2, p3, c3, hbel, hbx, ⟨_, rfl, hrs⟩, o1, o2, o3⟩
          refine AllReadyH.cons rfl (fun K hK => ?_) AllReadyH.nil
          have z := hbx.cell' (i := 8) rfl
          go_simp
          refine hK.out _ _ trivial (fun hHeld => ?_)
          clear hK K
          try simp only [Act.put, List.getElem_toArray, List.getElem_cons_succ, List.getElem_cons_zero, List.setIfInBounds_toArray, List.set_cons_zero, List.set_cons_succ]
          clear z
          refine wpAnyH_take (i := 9) (v := ?_) rfl (by kernel_rfl) (by kernel_rfl) (by kernel_rfl) (fun _ _ _ h => h) (Or.inl ⟨by rfl, ?_⟩) hHeld ?_
          rotate_left
          · intro w' hSw; try dsimp only at hSw
            go_simp; try (with_reducible rfl)
          try simp only [Act.put, List.getElem_toArray, List.getElem_cons_succ, List.getElem_cons_zero, List.setIfInBounds_toArray, List.set_cons_zero, List.set_cons_succ]
          refine wpAnyH_ready (rs := [5]) (by kernel_rfl) (by simp) ?_
          refine AllReadyH.cons rfl (fun K hK => ?_) AllReadyH.nil
          go_simp
          refine (hB _ hbel).mono ?_
          rintro e W2 ⟨v, rfl, ⟨p2, c2, rfl⟩, o2, k2⟩
          try go_wp2_with fail
          refine hK.out _ _ trivial (fun hHeld => ?_)
          clear hK K
          try simp only [Act.put, List.getElem_toArray, List.getElem_cons_succ, List.getElem_cons_zero, List.setIfInBounds_toArray, List.set_cons_zero, List.set_cons_succ]
          replace hbx := hbx.kept k2
          replace hrs := hrs.kept k2
          replace hbel := bt hbel k2
          replace o1 := owns_below o1 k2
          replace o2 := owns_mono o2 hsz
          replace hsz := Nat.le_trans hsz k2.size
          clear k2
          refine wpAnyH_ready (rs := [8]) (by kernel_rfl) (by simp) ?_
          refine AllReadyH.cons rfl (fun K hK => ?_) AllReadyH.nil
          go_simp
          refine (hG _ hbel).mono ?_
          rintro e W3 ⟨v, rfl, ⟨p3, c3, rfl⟩, o3, k3⟩
          try go_wp2_with fail
          refine hK.out _ _ trivial (fun hHeld => ?_)
          clear hK K
          try simp only [Act.put, List.getElem_toArray, List.getElem_cons_succ, List.getElem_cons_zero, List.setIfInBounds_toArray, List.set_cons_zero, List.set_cons_succ]
          replace hbx := hbx.kept k3
          replace hrs := hrs.kept k3
          replace hbel := bt hbel k3
          replace o1 := owns_below o1 k3
          replace o2 := owns_below o2 k3
          replace o3 := owns_mono o3 hsz
          replace hsz := Nat.le_trans hsz k3.size
          clear k3
          refine wpAnyH_ready (rs := [10]) (by kernel_rfl) (by simp) ?_
          refine AllReadyH.cons rfl (fun K hK => ?_) AllReadyH.nil
          rw [if_pos (by rfl)]
          refine wp_store_cell 22 (.tmp 14) (.tmp 7) rfl _ 3 (.slice p1 V.nd c1) rfl rfl hbx (by simp) (by kernel_rfl) rfl ?_
          intro Wn hbn htn
          replace hbel := htn.below hbel (Nat.le_refl _)
          replace hrs := hrs.turned htn (by omega)
          replace o1 := owns_turned o1 htn (far_lt o1)
          replace o2 := owns_turned o2 htn (far_lt o2)
          replace o3 := owns_turned o3 htn (far_lt o3)
          clear hbx
          have hbx := hbn
          clear hbn htn
          refine hK.out _ _ trivial (fun hHeld => ?_)
          clear hK K
          try simp only [Act.put, List.getElem_toArray, List.getElem_cons_succ, List.getElem_cons_zero, List.setIfInBounds_toArray, List.set_cons_zero, List.set_cons_succ]
          refine wpAnyH_take (i := 11) (v := ?_) rfl (by kernel_rfl) (by kernel_rfl) (by kernel_rfl) (fun _ _ _ h => h) (Or.inl ⟨by rfl, ?_⟩) hHeld ?_
          rotate_left
          · intro w' hSw; try dsimp only at hSw
            go_simp; try (with_reducible rfl)
          try simp only [Act.put, List.getElem_toArray, List.getElem_cons_succ, List.getElem_cons_zero, List.setIfInBounds_toArray, List.set_cons_zero, List.set_cons_succ]
          refine wpAnyH_ready (rs := [12]) (by kernel_rfl) (by simp) ?_
          refine AllReadyH.cons rfl (fun K hK => ?_) AllReadyH.nil
          rw [if_pos (by rfl)]
          refine wp_store_cell 23 (.tmp 15) (.tmp 10) rfl _ 4 (.slice p2 V.nh c2) rfl rfl hbx (by simp) (by kernel_rfl) rfl ?_
          intro Wn hbn htn
          replace hbel := htn.below hbel (Nat.le_refl _)
          replace hrs := hrs.turned htn (by omega)
          replace o1 := owns_turned o1 htn (far_lt o1)
          replace o2 := owns_turned o2 htn (far_lt o2)
          replace o3 := owns_turned o3 htn (far_lt o3)
          clear hbx
          have hbx := hbn
          clear hbn htn
          refine hK.out _ _ trivial (fun hHeld => ?_)
          clear hK K
          try simp only [Act.put, List.getElem_toArray, List.getElem_cons_succ, List.getElem_cons_zero, List.setIfInBounds_toArray, List.set_cons_zero, List.set_cons_succ]
          refine wpAnyH_take (i := 13) (v := ?_) rfl (by kernel_rfl) (by kernel_rfl) (by kernel_rfl) (fun _ _ _ h => h) (Or.inl ⟨by rfl, ?_⟩) hHeld ?_
          rotate_left
          · intro w' hSw; try dsimp only at hSw
            go_simp; try (with_reducible rfl)
          try simp only [Act.put, List.getElem_toArray, List.getElem_cons_succ, List.getElem_cons_zero, List.setIfInBounds_toArray, List.set_cons_zero, List.set_cons_succ]
          refine wpAnyH_ready (rs := [14]) (by kernel_rfl) (by simp) ?_
          refine AllReadyH.cons rfl (fun K hK => ?_) AllReadyH.nil
          rw [if_pos (by rfl)]
          refine wp_store_cell 26 (.tmp 16) (.tmp 13) rfl _ 8 (.slice p3 V.nl c3) rfl rfl hbx (by simp) (by kernel_rfl) rfl ?_
          intro Wn hbn htn
          replace hbel := htn.below hbel (Nat.le_refl _)
          replace hrs := hrs.turned htn (by omega)
          replace o1 := owns_turned o1 htn (far_lt o1)
          replace o2 := owns_turned o2 htn (far_lt o2)
          replace o3 := owns_turned o3 htn (far_lt o3)
          clear hbx
          have hbx := hbn
          clear hbn htn
          refine hK.out _ _ trivial (fun hHeld => ?_)
          clear hK K
          try simp only [Act.put, List.getElem_toArray, List.getElem_cons_succ, List.getElem_cons_zero, List.setIfInBounds_toArray, List.set_cons_zero, List.set_cons_succ]
          refine wpAnyH_done (by kernel_rfl) ?_ _
          refine NoPanic.normal ?_
          go_wp2_with fail
          go_meet
          case rel => exact ⟨rfl, p1, c1, p2, c2, p3, c3, hbel, hbx, ⟨_, rfl, hrs⟩, o1, o2, o3⟩
        refine AllReadyH.cons rfl (fun K hK => ?_) AllReadyH.nil
        have z := hbx.cell' (i := 8) rfl
        go_simp
        refine hK.out _ _ trivial (fun hHeld => ?_)
        clear hK K
        try simp only [Act.put, List.getElem_toArray, List.getElem_cons_succ, List.getElem_cons_zero, List.setIfInBounds_toArray, List.set_cons_zero, List.set_cons_succ]
        clear z
        refine wpAnyH_ready (rs := [2]) (by kernel_rfl) (by simp) ?_
        refine AllReadyH.cons rfl (fun K hK => ?_) AllReadyH.nil
        go_simp
        refine (hI _ hbel).mono ?_
        rintro e W1 ⟨v, rfl, ⟨p1, c1, rfl⟩, o1, k1⟩
        try go_wp2_with fail
        refine hK.out _ _ trivial (fun hHeld => ?_)
        clear hK K
        try simp only [Act.put, List.getElem_toArray, List.getElem_cons_succ, List.getElem_cons_zero, List.setIfInBounds_toArray, List.set_cons_zero, List.set_cons_succ]
        replace hbx := hbx.kept k1
        replace hrs := hrs.kept k1
        replace hbel := bt hbel k1
        replace o1 := owns_mono o1 hsz
        replace hsz := Nat.le_trans hsz k1.size
        clear k1
        refine wpAnyH_take (i := 9) (v := ?_) rfl (by kernel_rfl) (by kernel_rfl) (by kernel_rfl) (fun _ _ _ h => h) (Or.inl ⟨by rfl, ?_⟩) hHeld ?_
        rotate_left
        · intro w' hSw; try dsimp only at hSw
          go_simp; try (with_reducible rfl)
        try simp only [Act.put, List.getElem_toArray, List.getElem_cons_succ, List.getElem_cons_zero, List.setIfInBounds_toArray, List.set_cons_zero, List.set_cons_succ]
        refine wpAnyH_ready (rs := [5]) (by kernel_rfl) (by simp) ?_
        refine AllReadyH.cons rfl (fun K hK => ?_) AllReadyH.nil
        go_simp
        refine (hB _ hbel).mono ?_
        rintro e W2 ⟨v, rfl, ⟨p2, c2, rfl⟩, o2, k2⟩
        try go_wp2_with fail
        refine hK.out _ _ trivial (fun hHeld => ?_)
        clear hK K
        try simp only [Act.put, List.getElem_toArray, List.getElem_cons_succ, List.getElem_cons_zero, List.setIfInBounds_toArray, List.set_cons_zero, List.set_cons_succ]
        replace hbx := hbx.kept k2
        replace hrs := hrs.kept k2
        replace hbel := bt hbel k2
        replace o1 := owns_below o1 k2
        replace o2 := owns_mono o2 hsz
        replace hsz := Nat.le_trans hsz k2.size
        clear k2
        refine wpAnyH_ready (rs := [8]) (by kernel_rfl) (by simp) ?_
        refine AllReadyH.cons rfl (fun K hK => ?_) AllReadyH.nil
        go_simp
        refine (hG _ hbel).mono ?_
        rintro e W3 ⟨v, rfl, ⟨p3, c3, rfl⟩, o3, k3⟩
        try go_wp2_with fail
        refine hK.out _ _ trivial (fun hHeld => ?_)
        clear hK K
        try simp only [Act.put, List.getElem_toArray, List.getElem_cons_succ, List.getElem_cons_zero, List.setIfInBounds_toArray, List.set_cons_zero, List.set_cons_succ]
        replace hbx := hbx.kept k3
        replace hrs := hrs.kept k3
        replace hbel := bt hbel k3
        replace o1 := owns_below o1 k3
        replace o2 := owns_below o2 k3
        replace o3 := owns_mono o3 hsz
        replace hsz := Nat.le_trans hsz k3.size
        clear k3
        refine wpAnyH_ready (rs := [10]) (by kernel_rfl) (by simp) ?_
        refine AllReadyH.cons rfl (fun K hK => ?_) AllReadyH.nil
        rw [if_pos (by rfl)]
        refine wp_store_cell 22 (.tmp 14) (.tmp 7) rfl _ 3 (.slice p1 V.nd c1) rfl rfl hbx (by simp) (by kernel_rfl) rfl ?_
        intro Wn hbn htn
        replace hbel := htn.below hbel (Nat.le_refl _)
        replace hrs := hrs.turned htn (by omega)
        replace o1 := owns_turned o1 htn (far_lt o1)
        replace o2 := owns_turned o2 htn (far_lt o2)
        replace o3 := owns_turned o3 htn (far_lt o3)
        clear hbx
        have hbx := hbn
        clear hbn htn
        refine hK.out _ _ trivial (fun hHeld => ?_)
        clear hK K
        try simp only [Act.put, List.getElem_toArray, List.getElem_cons_succ, List.getElem_cons_zero, List.setIfInBounds_toArray, List.set_cons_zero, List.set_cons_succ]
        refine wpAnyH_take (i := 11) (v := ?_) rfl (by kernel_rfl) (by kernel_rfl) (by kernel_rfl) (fun _ _ _ h => h) (Or.inl ⟨by rfl, ?_⟩) hHeld ?_
        rotate_left
        · intro w' hSw; try dsimp only at hSw
          go_simp; try (with_reducible rfl)
        try simp only [Act.put, List.getElem_toArray, List.getElem_cons_succ, List.getElem_cons_zero, List.setIfInBounds_toArray, List.set_cons_zero, List.set_cons_succ]
        refine wpAnyH_ready (rs := [12]) (by kernel_rfl) (by simp) ?_
        refine AllReadyH.cons rfl (fun K hK => ?_) AllReadyH.nil
        rw [if_pos (by rfl)]
        refine wp_store_cell 23 (.tmp 15) (.tmp 10) rfl _ 4 (.slice p2 V.nh c2) rfl rfl hbx (by simp) (by kernel_rfl) rfl ?_
        intro Wn hbn htn
        replace hbel := htn.below hbel (Nat.le_refl _)
        replace hrs := hrs.turned htn (by omega)
        replace o1 := owns_turned o1 htn (far_lt o1)
        replace o2 := owns_turned o2 htn (far_lt o2)
        replace o3 := owns_turned o3 htn (far_lt o3)
        clear hbx
        have hbx := hbn
        clear hbn htn
        refine hK.out _ _ trivial (fun hHeld => ?_)
        clear hK K
        try simp only [Act.put, List.getElem_toArray, List.getElem_cons_succ, List.getElem_cons_zero, List.setIfInBounds_toArray, List.set_cons_zero, List.set_cons_succ]
        refine wpAnyH_take (i := 13) (v := ?_) rfl (by kernel_rfl) (by kernel_rfl) (by kernel_rfl) (fun _ _ _ h => h) (Or.inl ⟨by rfl, ?_⟩) hHeld ?_
        rotate_left
        · intro w' hSw; try dsimp only at hSw
          go_simp; try (with_reducible rfl)
        try simp only [Act.put, List.getElem_toArray, List.getElem_cons_succ, List.getElem_cons_zero, List.setIfInBounds_toArray, List.set_cons_zero, List.set_cons_succ]
        refine wpAnyH_ready (rs := [14]) (by kernel_rfl) (by simp) ?_
        refine AllReadyH.cons rfl (fun K hK => ?_) AllReadyH.nil
        rw [if_pos (by rfl)]
        refine wp_store_cell 26 (.tmp 16) (.tmp 13) rfl _ 8 (.slice p3 V.nl c3) rfl rfl hbx (by simp) (by kernel_rfl) rfl ?_
        intro Wn hbn htn
        replace hbel := htn.below hbel (Nat.le_refl _)
        replace hrs := hrs.turned htn (by omega)
        replace o1 := owns_turned o1 htn (far_lt o1)
        replace o2 := owns_turned o2 htn (far_lt o2)
        replace o3 := owns_turned o3 htn (far_lt o3)
        clear hbx
        have hbx := hbn
        clear hbn htn
        refine hK.out _ _ trivial (fun hHeld => ?_)
        clear hK K
        try simp only [Act.put, List.getElem_toArray, List.getElem_cons_succ, List.getElem_cons_zero, List.setIfInBounds_toArray, List.set_cons_zero, List.set_cons_succ]
        refine wpAnyH_done (by kernel_rfl) ?_ _
        refine NoPanic.normal ?_
        go_wp2_with fail
        go_meet
        case rel => exact ⟨rfl, p1, c1, p2, c2, p3, c3, hbel, hbx, ⟨_, rfl, hrs⟩, o1, o2, o3⟩
      refine AllReadyH.cons rfl (fun K hK => ?_) AllReadyH.nil
      have z := hbx.cell' (i := 8) rfl
      go_simp
      refine hK.out _ _ trivial (fun hHeld => ?_)
      clear hK K
      try simp only [Act.put, List.getElem_toArray, List.getElem_cons_succ, List.getElem_cons_zero, List.setIfInBounds_toArray, List.set_cons_zero, List.set_cons_succ]
      clear z
      refine wpAnyH_ready (rs := [2, 4]) (by kernel_rfl) (by simp) ?_
      refine AllReadyH.cons rfl (fun K hK => ?_) ?_
      · go_simp
        refine (hI _ hbel).mono ?_
        rintro e W1 ⟨v, rfl, ⟨p1, c1, rfl⟩, o1, k1⟩
        try go_wp2_with fail
        refine hK.out _ _ trivial (fun hHeld => ?_)
        clear hK K
        try simp only [Act.put, List.getElem_toArray, List.getElem_cons_succ, List.getElem_cons_zero, List.setIfInBounds_toArray, List.set_cons_zero, List.set_cons_succ]
        replace hbx := hbx.kept k1
        replace hrs := hrs.kept k1
        replace hbel := bt hbel k1
        replace o1 := owns_mono o1 hsz
        replace hsz := Nat.le_trans hsz k1.size
        clear k1
        refine wpAnyH_ready (rs := [4]) (by kernel_rfl) (by simp) ?_
        refine AllReadyH.cons rfl (fun K hK => ?_) AllReadyH.nil
        have z := hbx.cell' (i := 4) rfl
        go_simp
        refine hK.out _ _ trivial (fun hHeld => ?_)
        clear hK K
        try simp only [Act.put, List.getElem_toArray, List.getElem_cons_succ, List.getElem_cons_zero, List.setIfInBounds_toArray, List.set_cons_zero, List.set_cons_succ]
        clear z
        refine wpAnyH_take (i := 9) (v := ?_) rfl (by kernel_rfl) (by kernel_rfl) (by kernel_rfl) (fun _ _ _ h => h) (Or.inl ⟨by rfl, ?_⟩) hHeld ?_
        rotate_left
        · intro w' hSw; try dsimp only at hSw
          go_simp; try (with_reducible rfl)
        try simp only [Act.put, List.getElem_toArray, List.getElem_cons_succ, List.getElem_cons_zero, List.setIfInBounds_toArray, List.set_cons_zero, List.set_cons_succ]
        refine wpAnyH_ready (rs := [5]) (by kernel_rfl) (by simp) ?_
        refine AllReadyH.cons rfl (fun K hK => ?_) AllReadyH.nil
        go_simp
        refine (hB _ hbel).mono ?_
        rintro e W2 ⟨v, rfl, ⟨p2, c2, rfl⟩, o2, k2⟩
        try go_wp2_with fail
        refine hK.out _ _ trivial (fun hHeld => ?_)
        clear hK K
        try simp only [Act.put, List.getElem_toArray, List.getElem_cons_succ, List.getElem_cons_zero, List.setIfInBounds_toArray, List.set_cons_zero, List.set_cons_succ]
        replace hbx := hbx.kept k2
        replace hrs := hrs.kept k2
        replace hbel := bt hbel k2
        replace o1 := owns_below o1 k2
        replace o2 := owns_mono o2 hsz
        replace hsz := Nat.le_trans hsz k2.size
        clear k2
        refine wpAnyH_ready (rs := [8]) (by kernel_rfl) (by simp) ?_
        refine AllReadyH.cons rfl (fun K hK => ?_) AllReadyH.nil
        go_simp
        refine (hG _ hbel).mono ?_
        rintro e W3 ⟨v, rfl, ⟨p3, c3, rfl⟩, o3, k3⟩
        try go_wp2_with fail
        refine hK.out _ _ trivial (fun hHeld => ?_)
        clear hK K
        try simp only [Act.put, List.getElem_toArray, List.getElem_cons_succ, List.getElem_cons_zero, List.setIfInBounds_toArray, List.set_cons_zero, List.set_cons_succ]
        replace hbx := hbx.kept k3
        replace hrs := hrs.kept k3
        replace hbel := bt hbel k3
        replace o1 := owns_below o1 k3
        replace o2 := owns_below o2 k3
        replace o3 := owns_mono o3 hsz
        replace hsz := Nat.le_trans hsz k3.size
        clear k3
        refine wpAnyH_ready (rs := [10]) (by kernel_rfl) (by simp) ?_
        refine AllReadyH.cons rfl (fun K hK => ?_) AllReadyH.nil
        rw [if_pos (by rfl)]
        refine wp_store_cell 22 (.tmp 14) (.tmp 7) rfl _ 3 (.slice p1 V.nd c1) rfl rfl hbx (by simp) (by kernel_rfl) rfl ?_
        intro Wn hbn htn
        replace hbel := htn.below hbel (Nat.le_refl _)
        replace hrs := hrs.turned htn (by omega)
        replace o1 := owns_turned o1 htn (far_lt o1)
        replace o2 := owns_turned o2 htn (far_lt o2)
        replace o3 := owns_turned o3 htn (far_lt o3)
        clear hbx
        have hbx := hbn
        clear hbn htn
        refine hK.out _ _ trivial (fun hHeld => ?_)
        clear hK K
        try simp only [Act.put, List.getElem_toArray, List.getElem_cons_succ, List.getElem_cons_zero, List.setIfInBounds_toArray, List.set_cons_zero, List.set_cons_succ]
        refine wpAnyH_take (i := 11) (v := ?_) rfl (by kernel_rfl) (by kernel_rfl) (by kernel_rfl) (fun _ _ _ h => h) (Or.inl ⟨by rfl, ?_⟩) hHeld ?_
        rotate_left
        · intro w' hSw; try dsimp only at hSw
          go_simp; try (with_reducible rfl)
        try simp only [Act.put, List.getElem_toArray, List.getElem_cons_succ, List.getElem_cons_zero, List.setIfInBounds_toArray, List.set_cons_zero, List.set_cons_succ]
        refine wpAnyH_ready (rs := [12]) (by kernel_rfl) (by simp) ?_
        refine AllReadyH.cons rfl (fun K hK => ?_) AllReadyH.nil
        rw [if_pos (by rfl)]
        refine wp_store_cell 23 (.tmp 15) (.tmp 10) rfl _ 4 (.slice p2 V.nh c2) rfl rfl hbx (by simp) (by kernel_rfl) rfl ?_
        intro Wn hbn htn
        replace hbel := htn.below hbel (Nat.le_refl _)
        replace hrs := hrs.turned htn (by omega)
        replace o1 := owns_turned o1 htn (far_lt o1)
        replace o2 := owns_turned o2 htn (far_lt o2)
        replace o3 := owns_turned o3 htn (far_lt o3)
        clear hbx
        have hbx := hbn
        clear hbn htn
        refine hK.out _ _ trivial (fun hHeld => ?_)
        clear hK K
        try simp only [Act.put, List.getElem_toArray, List.getElem_cons_succ, List.getElem_cons_zero, List.setIfInBounds_toArray, List.set_cons_zero, List.set_cons_succ]
        refine wpAnyH_take (i := 13) (v := ?_) rfl (by kernel_rfl) (by kernel_rfl) (by kernel_rfl) (fun _ _ _ h => h) (Or.inl ⟨by rfl, ?_⟩) hHeld ?_
        rotate_left
        · intro w' hSw; try dsimp only at hSw
          go_simp; try (with_reducible rfl)
        try simp only [Act.put, List.getElem_toArray, List.getElem_cons_succ, List.getElem_cons_zero, List.setIfInBounds_toArray, List.set_cons_zero, List.set_cons_succ]
        refine wpAnyH_ready (rs := [14]) (by kernel_rfl) (by simp) ?_
        refine AllReadyH.cons rfl (fun K hK => ?_) AllReadyH.nil
        rw [if_pos (by rfl)]
        refine wp_store_cell 26 (.tmp 16) (.tmp 13) rfl _ 8 (.slice p3 V.nl c3) rfl rfl hbx (by simp) (by kernel_rfl) rfl ?_
        intro Wn hbn htn
        replace hbel := htn.below hbel (Nat.le_refl _)
        replace hrs := hrs.turned htn (by omega)
        replace o1 := owns_turned o1 htn (far_lt o1)
        replace o2 := owns_turned o2 htn (far_lt o2)
        replace o3 := owns_turned o3 htn (far_lt o3)
        clear hbx
        have hbx := hbn
        clear hbn htn
        refine hK.out _ _ trivial (fun hHeld => ?_)
        clear hK K
        try simp only [Act.put, List.getElem_toArray, List.getElem_cons_succ, List.getElem_cons_zero, List.setIfInBounds_toArray, List.set_cons_zero, List.set_cons_succ]
        refine wpAnyH_done (by kernel_rfl) ?_ _
        refine NoPanic.normal ?_
        go_wp2_with fail
        go_meet
        case rel => exact ⟨rfl, p1, c1, p2, c2, p3, c3, hbel, hbx, ⟨_, rfl, hrs⟩, o1, o2, o3⟩
      refine AllReadyH.cons rfl (fun K hK => ?_) AllReadyH.nil
      have z := hbx.cell' (i := 4) rfl
      go_simp
      refine hK.out _ _ trivial (fun hHeld => ?_)
      clear hK K
      try simp only [Act.put, List.getElem_toArray, List.getElem_cons_succ, List.getElem_cons_zero, List.setIfInBounds_toArray, List.set_cons_zero, List.set_cons_succ]
      clear z
      refine wpAnyH_ready (rs := [2]) (by kernel_rfl) (by simp) ?_
      refine AllReadyH.cons rfl (fun K hK => ?_) AllReadyH.nil
      go_simp
      refine (hI _ hbel).mono ?_
      rintro e W1 ⟨v, rfl, ⟨p1, c1, rfl⟩, o1, k1⟩
      try go_wp2_with fail
      refine hK.out _ _ trivial (fun hHeld => ?_)
      clear hK K
      try simp only [Act.put, List.getElem_toArray, List.getElem_cons_succ, List.getElem_cons_zero, List.setIfInBounds_toArray, List.set_cons_zero, List.set_cons_succ]
      replace hbx := hbx.kept k1
      replace hrs := hrs.kept k1
      replace hbel := bt hbel k1
      replace o1 := owns_mono o1 hsz
      replace hsz := Nat.le_trans hsz k1.size
      clear k1
      refine wpAnyH_take (i := 9) (v := ?_) rfl (by kernel_rfl) (by kernel_rfl) (by kernel_rfl) (fun _ _ _ h => h) (Or.inl ⟨by rfl, ?_⟩) hHeld ?_
      rotate_left
      · intro w' hSw; try dsimp only at hSw
        go_simp; try (with_reducible rfl)
      try simp only [Act.put, List.getElem_toArray, List.getElem_cons_succ, List.getElem_cons_zero, List.setIfInBounds_toArray, List.set_cons_zero, List.set_cons_succ]
      refine wpAnyH_ready (rs := [5]) (by kernel_rfl) (by simp) ?_
      refine AllReadyH.cons rfl (fun K hK => ?_) AllReadyH.nil
      go_simp
      refine (hB _ hbel).mono ?_
      rintro e W2 ⟨v, rfl, ⟨p2, c2, rfl⟩, o2, k2⟩
      try go_wp2_with fail
      refine hK.out _ _ trivial (fun hHeld => ?_)
      clear hK K
      try simp only [Act.put, List.getElem_toArray, List.getElem_cons_succ, List.getElem_cons_zero, List.setIfInBounds_toArray, List.set_cons_zero, List.set_cons_succ]
      replace hbx := hbx.kept k2
      replace hrs := hrs.kept k2
      replace hbel := bt hbel k2
      replace o1 := owns_below o1 k2
      replace o2 := owns_mono o2 hsz
      replace hsz := Nat.le_trans hsz k2.size
      clear k2
      refine wpAnyH_ready (rs := [8]) (by kernel_rfl) (by simp) ?_
      refine AllReadyH.cons rfl (fun K hK => ?_) AllReadyH.nil
      go_simp
      refine (hG _ hbel).mono ?_
      rintro e W3 ⟨v, rfl, ⟨p3, c3, rfl⟩, o3, k3⟩
      try go_wp2_with fail
      refine hK.out _ _ trivial (fun hHeld => ?_)
      clear hK K
      try simp only [Act.put, List.getElem_toArray, List.getElem_cons_succ, List.getElem_cons_zero, List.setIfInBounds_toArray, List.set_cons_zero, List.set_cons_succ]
      replace hbx := hbx.kept k3
      replace hrs := hrs.kept k3
      replace hbel := bt hbel k3
      replace o1 := owns_below o1 k3
      replace o2 := owns_below o2 k3
      replace o3 := owns_mono o3 hsz
      replace hsz := Nat.le_trans hsz k3.size
      clear k3
      refine wpAnyH_ready (rs := [10]) (by kernel_rfl) (by simp) ?_
      refine AllReadyH.cons rfl (fun K hK => ?_) AllReadyH.nil
      rw [if_pos (by rfl)]
      refine wp_store_cell 22 (.tmp 14) (.tmp 7) rfl _ 3 (.slice p1 V.nd c1) rfl rfl hbx (by simp) (by kernel_rfl) rfl ?_
      intro Wn hbn htn
      replace hbel := htn.below hbel (Nat.le_refl _)
      replace hrs := hrs.turned htn (by omega)
      replace o1 := owns_turned o1 htn (far_lt o1)
      replace o2 := owns_turned o2 htn (far_lt o2)
      replace o3 := owns_turned o3 htn (far_lt o3)
      clear hbx
      have hbx := hbn
      clear hbn htn
      refine hK.out _ _ trivial (fun hHeld => ?_)
      clear hK K
      try simp only [Act.put, List.getElem_toArray, List.getElem_cons_succ, List.getElem_cons_zero, List.setIfInBounds_toArray, List.set_cons_zero, List.set_cons_succ]
      refine wpAnyH_take (i := 11) (v := ?_) rfl (by kernel_rfl) (by kernel_rfl) (by kernel_rfl) (fun _ _ _ h => h) (Or.inl ⟨by rfl, ?_⟩) hHeld ?_
      rotate_left
      · intro w' hSw; try dsimp only at hSw
        go_simp; try (with_reducible rfl)
      try simp only [Act.put, List.getElem_toArray, List.getElem_cons_succ, List.getElem_cons_zero, List.setIfInBounds_toArray, List.set_cons_zero, List.set_cons_succ]
      refine wpAnyH_ready (rs := [12]) (by kernel_rfl) (by simp) ?_
      refine AllReadyH.cons rfl (fun K hK => ?_) AllReadyH.nil
      rw [if_pos (by rfl)]
      refine wp_store_cell 23 (.tmp 15) (.tmp 10) rfl _ 4 (.slice p2 V.nh c2) rfl rfl hbx (by simp) (by kernel_rfl) rfl ?_
      intro Wn hbn htn
      replace hbel := htn.below hbel (Nat.le_refl _)
      replace hrs := hrs.turned htn (by omega)
      replace o1 := owns_turned o1 htn (far_lt o1)
      replace o2 := owns_turned o2 htn (far_lt o2)
      replace o3 := owns_turned o3 htn (far_lt o3)
      clear hbx
      have hbx := hbn
      clear hbn htn
      refine hK.out _ _ trivial (fun hHeld => ?_)
      clear hK K
      try simp only [Act.put, List.getElem_toArray, List.getElem_cons_succ, List.getElem_cons_zero, List.setIfInBounds_toArray, List.set_cons_zero, List.set_cons_succ]
      refine wpAnyH_take (i := 13) (v := ?_) rfl (by kernel_rfl) (by kernel_rfl) (by kernel_rfl) (fun _ _ _ h => h) (Or.inl ⟨by rfl, ?_⟩) hHeld ?_
      rotate_left
      · intro w' hSw; try dsimp only at hSw
        go_simp; try (with_reducible rfl)
      try simp only [Act.put, List.getElem_toArray, List.getElem_cons_succ, List.getElem_cons_zero, List.setIfInBounds_toArray, List.set_cons_zero, List.set_cons_succ]
      refine wpAnyH_ready (rs := [14]) (by kernel_rfl) (by simp) ?_
      refine AllReadyH.cons rfl (fun K hK => ?_) AllReadyH.nil
      rw [if_pos (by rfl)]
      refine wp_store_cell 26 (.tmp 16) (.tmp 13) rfl _ 8 (.slice p3 V.nl c3) rfl rfl hbx (by simp) (by kernel_rfl) rfl ?_
      intro Wn hbn htn
      replace hbel := htn.below hbel (Nat.le_refl _)
      replace hrs := hrs.turned htn (by omega)
      replace o1 := owns_turned o1 htn (far_lt o1)
      replace o2 := owns_turned o2 htn (far_lt o2)
      replace o3 := owns_turned o3 htn (far_lt o3)
      clear hbx
      have hbx := hbn
      clear hbn htn
      refine hK.out _ _ trivial (fun hHeld => ?_)
      clear hK K
      try simp only [Act.put, List.getElem_toArray, List.getElem_cons_succ, List.getElem_cons_zero, List.setIfInBounds_toArray, List.set_cons_zero, List.set_cons_succ]
      refine wpAnyH_done (by kernel_rfl) ?_ _
      refine NoPanic.normal ?_
      go_wp2_with fail
      go_meet
      case rel => exact ⟨rfl, p1, c1, p2, c2, p3, c3, hbel, hbx, ⟨_, rfl, hrs⟩, o1, o2, o3⟩
    refine AllReadyH.cons rfl (fun K hK => ?_) ?_
    · have z := hbx.cell' (i := 4) rfl
      go_simp
      refine hK.out _ _ trivial (fun hHeld => ?_)
      clear hK K
      try simp only [Act.put, List.getElem_toArray, List.getElem_cons_succ, List.getElem_cons_zero, List.setIfInBounds_toArray, List.set_cons_zero, List.set_cons_succ]
      clear z
      refine wpAnyH_ready (rs := [1, 7]) (by kernel_rfl) (by simp) ?_
      refine AllReadyH.cons rfl (fun K hK => ?_) ?_
      · have z := hbx.cell' (i := 3) rfl
        go_simp
        refine hK.out _ _ trivial (fun hHeld => ?_)
        clear hK K
        try simp only [Act.put, List.getElem_toArray, List.getElem_cons_succ, List.getElem_cons_zero, List.setIfInBounds_toArray, List.set_cons_zero, List.set_cons_succ]
        clear z
        refine wpAnyH_ready (rs := [2, 7]) (by kernel_rfl) (by simp) ?_
        refine AllReadyH.cons rfl (fun K hK => ?_) ?_
        · go_simp
          refine (hI _ hbel).mono ?_
          rintro e W1 ⟨v, rfl, ⟨p1, c1, rfl⟩, o1, k1⟩
          try go_wp2_with fail
          refine hK.out _ _ trivial (fun hHeld => ?_)
          clear hK K
          try simp only [Act.put, List.getElem_toArray, List.getElem_cons_succ, List.getElem_cons_zero, List.setIfInBounds_toArray, List.set_cons_zero, List.set_cons_succ]
          replace hbx := hbx.kept k1
          replace hrs := hrs.kept k1
          replace hbel := bt hbel k1
          replace o1 := owns_mono o1 hsz
          replace hsz := Nat.le_trans hsz k1.size
          clear k1
          refine wpAnyH_ready (rs := [5, 7]) (by kernel_rfl) (by simp) ?_
          refine AllReadyH.cons rfl (fun K hK => ?_) ?_
          · go_simp
            refine (hB _ hbel).mono ?_
            rintro e W2 ⟨v, rfl, ⟨p2, c2, rfl⟩, o2, k2⟩
            try go_wp2_with fail
            refine hK.out _ _ trivial (fun hHeld => ?_)
            clear hK K
            try simp only [Act.put, List.getElem_toArray, List.getElem_cons_succ, List.getElem_cons_zero, List.setIfInBounds_toArray, List.set_cons_zero, List.set_cons_succ]
            replace hbx := hbx.kept k2
            replace hrs := hrs.kept k2
            replace hbel := bt hbel k2
            replace o1 := owns_below o1 k2
            replace o2 := owns_mono o2 hsz
            replace hsz := Nat.le_trans hsz k2.size
            clear k2
            refine wpAnyH_ready (rs := [7]) (by kernel_rfl) (by simp) ?_
            refine AllReadyH.cons rfl (fun K hK => ?_) AllReadyH.nil
            have z := hbx.cell' (i := 8) rfl
            go_simp
            refine hK.out _ _ trivial (fun hHeld => ?_)
            clear hK K
            try simp only [Act.put, List.getElem_toArray, List.getElem_cons_succ, List.getElem_cons_zero, List.setIfInBounds_toArray, List.set_cons_zero, List.set_cons_succ]
            clear z
            refine wpAnyH_take (i := 9) (v := ?_) rfl (by kernel_rfl) (by kernel_rfl) (by kernel_rfl) (fun _ _ _ h => h) (Or.inl ⟨by rfl, ?_⟩) hHeld ?_
            rotate_left
            · intro w' hSw; try dsimp only at hSw
              go_simp; try (with_reducible rfl)
            try simp only [Act.put, List.getElem_toArray, List.getElem_cons_succ, List.getElem_cons_zero, List.setIfInBounds_toArray, List.set_cons_zero, List.set_cons_succ]
            refine wpAnyH_ready (rs := [8]) (by kernel_rfl) (by simp) ?_
            refine AllReadyH.cons rfl (fun K hK => ?_) AllReadyH.nil
            go_simp
            refine (hG _ hbel).mono ?_
            rintro e W3 ⟨v, rfl, ⟨p3, c3, rfl⟩, o3, k3⟩
            try go_wp2_with fail
            refine hK.out _ _ trivial (fun hHeld => ?_)
            clear hK K
            try simp only [Act.put, List.getElem_toArray, List.getElem_cons_succ, List.getElem_cons_zero, List.setIfInBounds_toArray, List.set_cons_zero, List.set_cons_succ]
            replace hbx := hbx.kept k3
            replace hrs := hrs.kept k3
            replace hbel := bt hbel k3
            replace o1 := owns_below o1 k3
            replace o2 := owns_below o2 k3
            replace o3 := owns_mono o3 hsz
            replace hsz := Nat.le_trans hsz k3.size
            clear k3
            refine wpAnyH_ready (rs := [10]) (by kernel_rfl) (by simp) ?_
            refine AllReadyH.cons rfl (fun K hK => ?_) AllReadyH.nil
            rw [if_pos (by rfl)]
            refine wp_store_cell 22 (.tmp 14) (.tmp 7) rfl _ 3 (.slice p1 V.nd c1) rfl rfl hbx (by simp) (by kernel_rfl) rfl ?_
            intro Wn hbn htn
            replace hbel := htn.below hbel (Nat.le_refl _)
            replace hrs := hrs.turned htn (by omega)
            replace o1 := owns_turned o1 htn (far_lt o1)
            replace o2 := owns_turned o2 htn (far_lt o2)
            replace o3 := owns_turned o3 htn (far_lt o3)
            clear hbx
            have hbx := hbn
            clear hbn htn
            refine hK.out _ _ trivial (fun hHeld => ?_)
            clear hK K
            try simp only [Act.put, List.getElem_toArray, List.getElem_cons_succ, List.getElem_cons_zero, List.setIfInBounds_toArray, List.set_cons_zero, List.set_cons_succ]
            refine wpAnyH_take (i := 11) (v := ?_) rfl (by kernel_rfl) (by kernel_rfl) (by kernel_rfl) (fun _ _ _ h => h) (Or.inl ⟨by rfl, ?_⟩) hHeld ?_
            rotate_left
            · intro w' hSw; try dsimp only at hSw
              go_simp; try (with_reducible rfl)
            try simp only [Act.put, List.getElem_toArray, List.getElem_cons_succ, List.getElem_cons_zero, List.setIfInBounds_toArray, List.set_cons_zero, List.set_cons_succ]
            refine wpAnyH_ready (rs := [12]) (by kernel_rfl) (by simp) ?_
            refine AllReadyH.cons rfl (fun K hK => ?_) AllReadyH.nil
            rw [if_pos (by rfl)]
            refine wp_store_cell 23 (.tmp 15) (.tmp 10) rfl _ 4 (.slice p2 V.nh c2) rfl rfl hbx (by simp) (by kernel_rfl) rfl ?_
            intro Wn hbn htn
            replace hbel := htn.below hbel (Nat.le_refl _)
            replace hrs := hrs.turned htn (by omega)
            replace o1 := owns_turned o1 htn (far_lt o1)
            replace o2 := owns_turned o2 htn (far_lt o2)
            replace o3 := owns_turned o3 htn (far_lt o3)
            clear hbx
            have hbx := hbn
            clear hbn htn
            refine hK.out _ _ trivial (fun hHeld => ?_)
            clear hK K
            try simp only [Act.put, List.getElem_toArray, List.getElem_cons_succ, List.getElem_cons_zero, List.setIfInBounds_toArray, List.set_cons_zero, List.set_cons_succ]
            refine wpAnyH_take (i := 13) (v := ?_) rfl (by kernel_rfl) (by kernel_rfl) (by kernel_rfl) (fun _ _ _ h => h) (Or.inl ⟨by rfl, ?_⟩) hHeld ?_
            rotate_left
            · intro w' hSw; try dsimp only at hSw
              go_simp; try (with_reducible rfl)
            try simp only [Act.put, List.getElem_toArray, List.getElem_cons_succ, List.getElem_cons_zero, List.setIfInBounds_toArray, List.set_cons_zero, List.set_cons_succ]
            refine wpAnyH_ready (rs := [14]) (by kernel_rfl) (by simp) ?_
            refine AllReadyH.cons rfl (fun K hK => ?_) AllReadyH.nil
            rw [if_pos (by rfl)]
            refine wp_store_cell 26 (.tmp 16) (.tmp 13) rfl _ 8 (.slice p3 V.nl c3) rfl rfl hbx (by simp) (by kernel_rfl) rfl ?_
            intro Wn hbn htn
            replace hbel := htn.below hbel (Nat.le_refl _)
            replace hrs := hrs.turned htn (by omega)
            replace o1 := owns_turned o1 htn (far_lt o1)
            replace o2 := owns_turned o2 htn (far_lt o2)
            replace o3 := owns_turned o3 htn (far_lt o3)
            clear hbx
            have hbx := hbn
            clear hbn htn
            refine hK.out _ _ trivial (fun hHeld => ?_)
            clear hK K
            try simp only [Act.put, List.getElem_toArray, List.getElem_cons_succ, List.getElem_cons_zero, List.setIfInBounds_toArray, List.set_cons_zero, List.set_cons_succ]
            refine wpAnyH_done (by kernel_rfl) ?_ _
            refine NoPanic.normal ?_
            go_wp2_with fail
            go_meet
            case rel => exact ⟨rfl, p1, c1, p2, c2, p3, c3, hbel, hbx, ⟨_, rfl, hrs⟩, o1, o2, o3⟩
          refine AllReadyH.cons rfl (fun K hK => ?_) AllReadyH.nil
          have z := hbx.cell' (i := 8) rfl
          go_simp
          refine hK.out _ _ trivial (fun hHeld => ?_)
          clear hK K
          try simp only [Act.put, List.getElem_toArray, List.getElem_cons_succ, List.getElem_cons_zero, List.setIfInBounds_toArray, List.set_cons_zero, List.set_cons_succ]
          clear z
          refine wpAnyH_take (i := 9) (v := ?_) rfl (by kernel_rfl) (by kernel_rfl) (by kernel_rfl) (fun _ _ _ h => h) (Or.inl ⟨by rfl, ?_⟩) hHeld ?_
          rotate_left
          · intro w' hSw; try dsimp only at hSw
            go_simp; try (with_reducible rfl)
          try simp only [Act.put, List.getElem_toArray, List.getElem_cons_succ, List.getElem_cons_zero, List.setIfInBounds_toArray, List.set_cons_zero, List.set_cons_succ]
          refine wpAnyH_ready (rs := [5]) (by kernel_rfl) (by simp) ?_
          refine AllReadyH.cons rfl (fun K hK => ?_) AllReadyH.nil
          go_simp
          refine (hB _ hbel).mono ?_
          rintro e W2 ⟨v, rfl, ⟨p2, c2, rfl⟩, o2, k2⟩
          try go_wp2_with fail
          refine hK.out _ _ trivial (fun hHeld => ?_)
          clear hK K
          try simp only [Act.put, List.getElem_toArray, List.getElem_cons_succ, List.getElem_cons_zero, List.setIfInBounds_toArray, List.set_cons_zero, List.set_cons_succ]
          replace hbx := hbx.kept k2
          replace hrs := hrs.kept k2
          replace hbel := bt hbel k2
          replace o1 := owns_below o1 k2
          replace o2 := owns_mono o2 hsz
          replace hsz := Nat.le_trans hsz k2.size
          clear k2
          refine wpAnyH_ready (rs := [8]) (by kernel_rfl) (by simp) ?_
          refine AllReadyH.cons rfl (fun K hK => ?_) AllReadyH.nil
          go_simp
          refine (hG _ hbel).mono ?_
          rintro e W3 ⟨v, rfl, ⟨p3, c3, rfl⟩, o3, k3⟩
          try go_wp2_with fail
          refine hK.out _ _ trivial (fun hHeld => ?_)
          clear hK K
          try simp only [Act.put, List.getElem_toArray, List.getElem_cons_succ, List.getElem_cons_zero, List.setIfInBounds_toArray, List.set_cons_zero, List.set_cons_succ]
          replace hbx := hbx.kept k3
          replace hrs := hrs.kept k3
          replace hbel := bt hbel k3
          replace o1 := owns_below o1 k3
          replace o2 := owns_below o2 k3
          replace o3 := owns_mono o3 hsz
          replace hsz := Nat.le_trans hsz k3.size
          clear k3
          refine wpAnyH_ready (rs := [10]) (by kernel_rfl) (by simp) ?_
          refine AllReadyH.cons rfl (fun K hK => ?_) AllReadyH.nil
          rw [if_pos (by rfl)]
          refine wp_store_cell 22 (.tmp 14) (.tmp 7) rfl _ 3 (.slice p1 V.nd c1) rfl rfl hbx (by simp) (by kernel_rfl) rfl ?_
          intro Wn hbn htn
          replace hbel := htn.below hbel (Nat.le_refl _)
          replace hrs := hrs.turned htn (by omega)
          replace o1 := owns_turned o1 htn (far_lt o1)
          replace o2 := owns_turned o2 htn (far_lt o2)
          replace o3 := owns_turned o3 htn (far_lt o3)
          clear hbx
          have hbx := hbn
          clear hbn htn
          refine hK.out _ _ trivial (fun hHeld => ?_)
          clear hK K
          try simp only [Act.put, List.getElem_toArray, List.getElem_cons_succ, List.getElem_cons_zero, List.setIfInBounds_toArray, List.set_cons_zero, List.set_cons_succ]
          refine wpAnyH_take (i := 11) (v := ?_) rfl (by kernel_rfl) (by kernel_rfl) (by kernel_rfl) (fun _ _ _ h => h) (Or.inl ⟨by rfl, ?_⟩) hHeld ?_
          rotate_left
          · intro w' hSw; try dsimp only at hSw
            go_simp; try (with_reducible rfl)
          try simp only [Act.put, List.getElem_toArray, List.getElem_cons_succ, List.getElem_cons_zero, List.setIfInBounds_toArray, List.set_cons_zero, List.set_cons_succ]
          refine wpAnyH_ready (rs := [12]) (by kernel_rfl) (by simp) ?_
          refine AllReadyH.cons rfl (fun K hK => ?_) AllReadyH.nil
          rw [if_pos (by rfl)]
          refine wp_store_cell 23 (.tmp 15) (.tmp 10) rfl _ 4 (.slice p2 V.nh c2) rfl rfl hbx (by simp) (by kernel_rfl) rfl ?_
          intro Wn hbn htn
          replace hbel := htn.below hbel (Nat.le_refl _)
          replace hrs := hrs.turned htn (by omega)
          replace o1 := owns_turned o1 htn (far_lt o1)
          replace o2 := owns_turned o2 htn (far_lt o2)
          replace o3 := owns_turned o3 htn (far_lt o3)
          clear hbx
          have hbx := hbn
          clear hbn htn
          refine hK.out _ _ trivial (fun hHeld => ?_)
          clear hK K
          try simp only [Act.put, List.getElem_toArray, List.getElem_cons_succ, List.getElem_cons_zero, List.setIfInBounds_toArray, List.set_cons_zero, List.set_cons_succ]
          refine wpAnyH_take (i := 13) (v := ?_) rfl (by kernel_rfl) (by kernel_rfl) (by kernel_rfl) (fun _ _ _ h => h) (Or.inl ⟨by rfl, ?_⟩) hHeld ?_
          rotate_left
          · intro w' hSw; try dsimp only at hSw
            go_simp; try (with_reducible rfl)
          try simp only [Act.put, List.getElem_toArray, List.getElem_cons_succ, List.getElem_cons_zero, List.setIfInBounds_toArray, List.set_cons_zero, List.set_cons_succ]
          refine wpAnyH_ready (rs := [14]) (by kernel_rfl) (by simp) ?_
          refine AllReadyH.cons rfl (fun K hK => ?_) AllReadyH.nil
          rw [if_pos (by rfl)]
          refine wp_store_cell 26 (.tmp 16) (.tmp 13) rfl _ 8 (.slice p3 V.nl c3) rfl rfl hbx (by simp) (by kernel_rfl) rfl ?_
          intro Wn hbn htn
          replace hbel := htn.below hbel (Nat.le_refl _)
          replace hrs := hrs.turned htn (by omega)
          replace o1 := owns_turned o1 htn (far_lt o1)
          replace o2 := owns_turned o2 htn (far_lt o2)
          replace o3 := owns_turned o3 htn (far_lt o3)
          clear hbx
          have hbx := hbn
          clear hbn htn
          refine hK.out _ _ trivial (fun hHeld => ?_)
          clear hK K
          try simp only [Act.put, List.getElem_toArray, List.getElem_cons_succ, List.getElem_cons_zero, List.setIfInBounds_toArray, List.set_cons_zero, List.set_cons_succ]
          refine wpAnyH_done (by kernel_rfl) ?_ _
          refine NoPanic.normal ?_
          go_wp2_with fail
          go_meet
          case rel => exact ⟨rfl, p1, c1, p2, c2, p3, c3, hbel, hbx, ⟨_, rfl, hrs⟩, o1, o2, o3⟩
        refine AllReadyH.cons rfl (fun K hK => ?_) AllReadyH.nil
        have z := hbx.cell' (i := 8) rfl
        go_simp
        refine hK.out _ _ trivial (fun hHeld => ?_)
        clear hK K
        try simp only [Act.put, List.getElem_toArray, List.getElem_cons_succ, List.getElem_cons_zero, List.setIfInBounds_toArray, List.set_cons_zero, List.set_cons_succ]
        clear z
        refine wpAnyH_ready (rs := [2]) (by kernel_rfl) (by simp) ?_
        refine AllReadyH.cons rfl (fun K hK => ?_) AllReadyH.nil
        go_simp
        refine (hI _ hbel).mono ?_
        rintro e W1 ⟨v, rfl, ⟨p1, c1, rfl⟩, o1, k1⟩
        try go_wp2_with fail
        refine hK.out _ _ trivial (fun hHeld => ?_)
        clear hK K
        try simp only [Act.put, List.getElem_toArray, List.getElem_cons_succ, List.getElem_cons_zero, List.setIfInBounds_toArray, List.set_cons_zero, List.set_cons_succ]
        replace hbx := hbx.kept k1
        replace hrs := hrs.kept k1
        replace hbel := bt hbel k1
        replace o1 := owns_mono o1 hsz
        replace hsz := Nat.le_trans hsz k1.size
        clear k1
        refine wpAnyH_take (i := 9) (v := ?_) rfl (by kernel_rfl) (by kernel_rfl) (by kernel_rfl) (fun _ _ _ h => h) (Or.inl ⟨by rfl, ?_⟩) hHeld ?_
        rotate_left
        · intro w' hSw; try dsimp only at hSw
          go_simp; try (with_reducible rfl)
        try simp only [Act.put, List.getElem_toArray, List.getElem_cons_succ, List.getElem_cons_zero, List.setIfInBounds_toArray, List.set_cons_zero, List.set_cons_succ]
        refine wpAnyH_ready (rs := [5]) (by kernel_rfl) (by simp) ?_
        refine AllReadyH.cons rfl (fun K hK => ?_) AllReadyH.nil
        go_simp
        refine (hB _ hbel).mono ?_
        rintro e W2 ⟨v, rfl, ⟨p2, c2, rfl⟩, o2, k2⟩
        try go_wp2_with fail
        refine hK.out _ _ trivial (fun hHeld => ?_)
        clear hK K
        try simp only [Act.put, List.getElem_toArray, List.getElem_cons_succ, List.getElem_cons_zero, List.setIfInBounds_toArray, List.set_cons_zero, List.set_cons_succ]
        replace hbx := hbx.kept k2
        replace hrs := hrs.kept k2
        replace hbel := bt hbel k2
        replace o1 := owns_below o1 k2
        replace o2 := owns_mono o2 hsz
        replace hsz := Nat.le_trans hsz k2.size
        clear k2
        refine wpAnyH_ready (rs := [8]) (by kernel_rfl) (by simp) ?_
        refine AllReadyH.cons rfl (fun K hK => ?_) AllReadyH.nil
        go_simp
        refine (hG _ hbel).mono ?_
        rintro e W3 ⟨v, rfl, ⟨p3, c3, rfl⟩, o3, k3⟩
        try go_wp2_with fail
        refine hK.out _ _ trivial (fun hHeld => ?_)
        clear hK K
        try simp only [Act.put, List.getElem_toArray, List.getElem_cons_succ, List.getElem_cons_zero, List.setIfInBounds_toArray, List.set_cons_zero, List.set_cons_succ]
        replace hbx := hbx.kept k3
        replace hrs := hrs.kept k3
        replace hbel := bt hbel k3
        replace o1 := owns_below o1 k3
        replace o2 := owns_below o2 k3
        replace o3 := owns_mono o3 hsz
        replace hsz := Nat.le_trans hsz k3.size
        clear k3
        refine wpAnyH_ready (rs := [10]) (by kernel_rfl) (by simp) ?_
        refine AllReadyH.cons rfl (fun K hK => ?_) AllReadyH.nil
        rw [if_pos (by rfl)]
        refine wp_store_cell 22 (.tmp 14) (.tmp 7) rfl _ 3 (.slice p1 V.nd c1) rfl rfl hbx (by simp) (by kernel_rfl) rfl ?_
        intro Wn hbn htn
        replace hbel := htn.below hbel (Nat.le_refl _)
        replace hrs := hrs.turned htn (by omega)
        replace o1 := owns_turned o1 htn (far_lt o1)
        replace o2 := owns_turned o2 htn (far_lt o2)
        replace o3 := owns_turned o3 htn (far_lt o3)
        clear hbx
        have hbx := hbn
        clear hbn htn
        refine hK.out _ _ trivial (fun hHeld => ?_)
        clear hK K
        try simp only [Act.put, List.getElem_toArray, List.getElem_cons_succ, List.getElem_cons_zero, List.setIfInBounds_toArray, List.set_cons_zero, List.set_cons_succ]
        refine wpAnyH_take (i := 11) (v := ?_) rfl (by kernel_rfl) (by kernel_rfl) (by kernel_rfl) (fun _ _ _ h => h) (Or.inl ⟨by rfl, ?_⟩) hHeld ?_
        rotate_left
        · intro w' hSw; try dsimp only at hSw
          go_simp; try (with_reducible rfl)
        try simp only [Act.put, List.getElem_toArray, List.getElem_cons_succ, List.getElem_cons_zero, List.setIfInBounds_toArray, List.set_cons_zero, List.set_cons_succ]
        refine wpAnyH_ready (rs := [12]) (by kernel_rfl) (by simp) ?_
        refine AllReadyH.cons rfl (fun K hK => ?_) AllReadyH.nil
        rw [if_pos (by rfl)]
        refine wp_store_cell 23 (.tmp 15) (.tmp 10) rfl _ 4 (.slice p2 V.nh c2) rfl rfl hbx (by simp) (by kernel_rfl) rfl ?_
        intro Wn hbn htn
        replace hbel := htn.below hbel (Nat.le_refl _)
        replace hrs := hrs.turned htn (by omega)
        replace o1 := owns_turned o1 htn (far_lt o1)
        replace o2 := owns_turned o2 htn (far_lt o2)
        replace o3 := owns_turned o3 htn (far_lt o3)
        clear hbx
        have hbx := hbn
        clear hbn htn
        refine hK.out _ _ trivial (fun hHeld => ?_)
        clear hK K
        try simp only [Act.put, List.getElem_toArray, List.getElem_cons_succ, List.getElem_cons_zero, List.setIfInBounds_toArray, List.set_cons_zero, List.set_cons_succ]
        refine wpAnyH_take (i := 13) (v := ?_) rfl (by kernel_rfl) (by kernel_rfl) (by kernel_rfl) (fun _ _ _ h => h) (Or.inl ⟨by rfl, ?_⟩) hHeld ?_
        rotate_left
        · intro w' hSw; try dsimp only at hSw
          go_simp; try (with_reducible rfl)
        try simp only [Act.put, List.getElem_toArray, List.getElem_cons_succ, List.getElem_cons_zero, List.setIfInBounds_toArray, List.set_cons_zero, List.set_cons_succ]
        refine wpAnyH_ready (rs := [14]) (by kernel_rfl) (by simp) ?_
        refine AllReadyH.cons rfl (fun K hK => ?_) AllReadyH.nil
        rw [if_pos (by rfl)]
        refine wp_store_cell 26 (.tmp 16) (.tmp 13) rfl _ 8 (.slice p3 V.nl c3) rfl rfl hbx (by simp) (by kernel_rfl) rfl ?_
        intro Wn hbn htn
        replace hbel := htn.below hbel (Nat.le_refl _)
        replace hrs := hrs.turned htn (by omega)
        replace o1 := owns_turned o1 htn (far_lt o1)
        replace o2 := owns_turned o2 htn (far_lt o2)
        replace o3 := owns_turned o3 htn (far_lt o3)
        clear hbx
        have hbx := hbn
        clear hbn htn
        refine hK.out _ _ trivial (fun hHeld => ?_)
        clear hK K
        try simp only [Act.put, List.getElem_toArray, List.getElem_cons_succ, List.getElem_cons_zero, List.setIfInBounds_toArray, List.set_cons_zero, List.set_cons_succ]
        refine wpAnyH_done (by kernel_rfl) ?_ _
        refine NoPanic.normal ?_
        go_wp2_with fail
        go_meet
        case rel => exact ⟨rfl, p1, c1, p2, c2, p3, c3, hbel, hbx, ⟨_, rfl, hrs⟩, o1, o2, o3⟩
      refine AllReadyH.cons rfl (fun K hK => ?_) AllReadyH.nil
      have z := hbx.cell' (i := 8) rfl
      go_simp
      refine hK.out _ _ trivial (fun hHeld => ?_)
      clear hK K
      try simp only [Act.put, List.getElem_toArray, List.getElem_cons_succ, List.getElem_cons_zero, List.setIfInBounds_toArray, List.set_cons_zero, List.set_cons_succ]
      clear z
      refine wpAnyH_ready (rs := [1]) (by kernel_rfl) (by simp) ?_
      refine AllReadyH.cons rfl (fun K hK => ?_) AllReadyH.nil
      have z := hbx.cell' (i := 3) rfl
      go_simp
      refine hK.out _ _ trivial (fun hHeld => ?_)
      clear hK K
      try simp only [Act.put, List.getElem_toArray, List.getElem_cons_succ, List.getElem_cons_zero, List.setIfInBounds_toArray, List.set_cons_zero, List.set_cons_succ]
      clear z
      refine wpAnyH_ready (rs := [2]) (by kernel_rfl) (by simp) ?_
      refine AllReadyH.cons rfl (fun K hK => ?_) AllReadyH.nil
      go_simp
      refine (hI _ hbel).mono ?_
      rintro e W1 ⟨v, rfl, ⟨p1, c1, rfl⟩, o1, k1⟩
      try go_wp2_with fail
      refine hK.out _ _ trivial (fun hHeld => ?_)
      clear hK K
      try simp only [Act.put, List.getElem_toArray, List.getElem_cons_succ, List.getElem_cons_zero, List.setIfInBounds_toArray, List.set_cons_zero, List.set_cons_succ]
      replace hbx := hbx.kept k1
      replace hrs := hrs.kept k1
      replace hbel := bt hbel k1
      replace o1 := owns_mono o1 hsz
      replace hsz := Nat.le_trans hsz k1.size
      clear k1
      refine wpAnyH_take (i := 9) (v := ?_) rfl (by kernel_rfl) (by kernel_rfl) (by kernel_rfl) (fun _ _ _ h => h) (Or.inl ⟨by rfl, ?_⟩) hHeld ?_
      rotate_left
      · intro w' hSw; try dsimp only at hSw
        go_simp; try (with_reducible rfl)
      try simp only [Act.put, List.getElem_toArray, List.getElem_cons_succ, List.getElem_cons_zero, List.setIfInBounds_toArray, List.set_cons_zero, List.set_cons_succ]
      refine wpAnyH_ready (rs := [5]) (by kernel_rfl) (by simp) ?_
      refine AllReadyH.cons rfl (fun K hK => ?_) AllReadyH.nil
      go_simp
      refine (hB _ hbel).mono ?_
      rintro e W2 ⟨v, rfl, ⟨p2, c2, rfl⟩, o2, k2⟩
      try go_wp2_with fail
      refine hK.out _ _ trivial (fun hHeld => ?_)
      clear hK K
      try simp only [Act.put, List.getElem_toArray, List.getElem_cons_succ, List.getElem_cons_zero, List.setIfInBounds_toArray, List.set_cons_zero, List.set_cons_succ]
      replace hbx := hbx.kept k2
      replace hrs := hrs.kept k2
      replace hbel := bt hbel k2
      replace o1 := owns_below o1 k2
      replace o2 := owns_mono o2 hsz
      replace hsz := Nat.le_trans hsz k2.size
      clear k2
      refine wpAnyH_ready (rs := [8]) (by kernel_rfl) (by simp) ?_
      refine AllReadyH.cons rfl (fun K hK => ?_) AllReadyH.nil
      go_simp
      refine (hG _ hbel).mono ?_
      rintro e W3 ⟨v, rfl, ⟨p3, c3, rfl⟩, o3, k3⟩
      try go_wp2_with fail
      refine hK.out _ _ trivial (fun hHeld => ?_)
      clear hK K
      try simp only [Act.put, List.getElem_toArray, List.getElem_cons_succ, List.getElem_cons_zero, List.setIfInBounds_toArray, List.set_cons_zero, List.set_cons_succ]
      replace hbx := hbx.kept k3
      replace hrs := hrs.kept k3
      replace hbel := bt hbel k3
      replace o1 := owns_below o1 k3
      replace o2 := owns_below o2 k3
      replace o3 := owns_mono o3 hsz
      replace hsz := Nat.le_trans hsz k3.size
      clear k3
      refine wpAnyH_ready (rs := [10]) (by kernel_rfl) (by simp) ?_
      refine AllReadyH.cons rfl (fun K hK => ?_) AllReadyH.nil
      rw [if_pos (by rfl)]
      refine wp_store_cell 22 (.tmp 14) (.tmp 7) rfl _ 3 (.slice p1 V.nd c1) rfl rfl hbx (by simp) (by kernel_rfl) rfl ?_
      intro Wn hbn htn
      replace hbel := htn.below hbel (Nat.le_refl _)
      replace hrs := hrs.turned htn (by omega)
      replace o1 := owns_turned o1 htn (far_lt o1)
      replace o2 := owns_turned o2 htn (far_lt o2)
      replace o3 := owns_turned o3 htn (far_lt o3)
      clear hbx
      have hbx := hbn
      clear hbn htn
      refine hK.out _ _ trivial (fun hHeld => ?_)
      clear hK K
      try simp only [Act.put, List.getElem_toArray, List.getElem_cons_succ, List.getElem_cons_zero, List.setIfInBounds_toArray, List.set_cons_zero, List.set_cons_succ]
      refine wpAnyH_take (i := 11) (v := ?_) rfl (by kernel_rfl) (by kernel_rfl) (by kernel_rfl) (fun _ _ _ h => h) (Or.inl ⟨by rfl, ?_⟩) hHeld ?_
      rotate_left
      · intro w' hSw; try dsimp only at hSw
        go_simp; try (with_reducible rfl)
      try simp only [Act.put, List.getElem_toArray, List.getElem_cons_succ, List.getElem_cons_zero, List.setIfInBounds_toArray, List.set_cons_zero, List.set_cons_succ]
      refine wpAnyH_ready (rs := [12]) (by kernel_rfl) (by simp) ?_
      refine AllReadyH.cons rfl (fun K hK => ?_) AllReadyH.nil
      rw [if_pos (by rfl)]
      refine wp_store_cell 23 (.tmp 15) (.tmp 10) rfl _ 4 (.slice p2 V.nh c2) rfl rfl hbx (by simp) (by kernel_rfl) rfl ?_
      intro Wn hbn htn
      replace hbel := htn.below hbel (Nat.le_refl _)
      replace hrs := hrs.turned htn (by omega)
      replace o1 := owns_turned o1 htn (far_lt o1)
      replace o2 := owns_turned o2 htn (far_lt o2)
      replace o3 := owns_turned o3 htn (far_lt o3)
      clear hbx
      have hbx := hbn
      clear hbn htn
      refine hK.out _ _ trivial (fun hHeld => ?_)
      clear hK K
      try simp only [Act.put, List.getElem_toArray, List.getElem_cons_succ, List.getElem_cons_zero, List.setIfInBounds_toArray, List.set_cons_zero, List.set_cons_succ]
      refine wpAnyH_take (i := 13) (v := ?_) rfl (by kernel_rfl) (by kernel_rfl) (by kernel_rfl) (fun _ _ _ h => h) (Or.inl ⟨by rfl, ?_⟩) hHeld ?_
      rotate_left
      · intro w' hSw; try dsimp only at hSw
        go_simp; try (with_reducible rfl)
      try simp only [Act.put, List.getElem_toArray, List.getElem_cons_succ, List.getElem_cons_zero, List.setIfInBounds_toArray, List.set_cons_zero, List.set_cons_succ]
      refine wpAnyH_ready (rs := [14]) (by kernel_rfl) (by simp) ?_
      refine AllReadyH.cons rfl (fun K hK => ?_) AllReadyH.nil
      rw [if_pos (by rfl)]
      refine wp_store_cell 26 (.tmp 16) (.tmp 13) rfl _ 8 (.slice p3 V.nl c3) rfl rfl hbx (by simp) (by kernel_rfl) rfl ?_
      intro Wn hbn htn
      replace hbel := htn.below hbel (Nat.le_refl _)
      replace hrs := hrs.turned htn (by omega)
      replace o1 := owns_turned o1 htn (far_lt o1)
      replace o2 := owns_turned o2 htn (far_lt o2)
      replace o3 := owns_turned o3 htn (far_lt o3)
      clear hbx
      have hbx := hbn
      clear hbn htn
      refine hK.out _ _ trivial (fun hHeld => ?_)
      clear hK K
      try simp only [Act.put, List.getElem_toArray, List.getElem_cons_succ, List.getElem_cons_zero, List.setIfInBounds_toArray, List.set_cons_zero, List.set_cons_succ]
      refine wpAnyH_done (by kernel_rfl) ?_ _
      refine NoPanic.normal ?_
      go_wp2_with fail
      go_meet
      case rel => exact ⟨rfl, p1, c1, p2, c2, p3, c3, hbel, hbx, ⟨_, rfl, hrs⟩, o1, o2, o3⟩
    refine AllReadyH.cons rfl (fun K hK => ?_) AllReadyH.nil
    have z := hbx.cell' (i := 8) rfl
    go_simp
    refine hK.out _ _ trivial (fun hHeld => ?_)
    clear hK K
    try simp only [Act.put, List.getElem_toArray, List.getElem_cons_succ, List.getElem_cons_zero, List.setIfInBounds_toArray, List.set_cons_zero, List.set_cons_succ]
    clear z
    refine wpAnyH_ready (rs := [1, 4]) (by kernel_rfl) (by simp) ?_
    refine AllReadyH.cons rfl (fun K hK => ?_) ?_
    · have z := hbx.cell' (i := 3) rfl
      go_simp
      refine hK.out _ _ trivial (fun hHeld => ?_)
      clear hK K
      try simp only [Act.put, List.getElem_toArray, List.getElem_cons_succ, List.getElem_cons_zero, List.setIfInBounds_toArray, List.set_cons_zero, List.set_cons_succ]
      clear z
      refine wpAnyH_ready (rs := [2, 4]) (by kernel_rfl) (by simp) ?_
      refine AllReadyH.cons rfl (fun K hK => ?_) ?_
      · go_simp
        refine (hI _ hbel).mono ?_
        rintro e W1 ⟨v, rfl, ⟨p1, c1, rfl⟩, o1, k1⟩
        try go_wp2_with fail
        refine hK.out _ _ trivial (fun hHeld => ?_)
        clear hK K
        try simp only [Act.put, List.getElem_toArray, List.getElem_cons_succ, List.getElem_cons_zero, List.setIfInBounds_toArray, List.set_cons_zero, List.set_cons_succ]
        replace hbx := hbx.kept k1
        replace hrs := hrs.kept k1
        replace hbel := bt hbel k1
        replace o1 := owns_mono o1 hsz
        replace hsz := Nat.le_trans hsz k1.size
        clear k1
        refine wpAnyH_ready (rs := [4]) (by kernel_rfl) (by simp) ?_
        refine AllReadyH.cons rfl (fun K hK => ?_) AllReadyH.nil
        have z := hbx.cell' (i := 4) rfl
        go_simp
        refine hK.out _ _ trivial (fun hHeld => ?_)
        clear hK K
        try simp only [Act.put, List.getElem_toArray, List.getElem_cons_succ, List.getElem_cons_zero, List.setIfInBounds_toArray, List.set_cons_zero, List.set_cons_succ]
        clear z
        refine wpAnyH_take (i := 9) (v := ?_) rfl (by kernel_rfl) (by kernel_rfl) (by kernel_rfl) (fun _ _ _ h => h) (Or.inl ⟨by rfl, ?_⟩) hHeld ?_
        rotate_left
        · intro w' hSw; try dsimp only at hSw
          go_simp; try (with_reducible rfl)
        try simp only [Act.put, List.getElem_toArray, List.getElem_cons_succ, List.getElem_cons_zero, List.setIfInBounds_toArray, List.set_cons_zero, List.set_cons_succ]
        refine wpAnyH_ready (rs := [5]) (by kernel_rfl) (by simp) ?_
        refine AllReadyH.cons rfl (fun K hK => ?_) AllReadyH.nil
        go_simp
        refine (hB _ hbel).mono ?_
        rintro e W2 ⟨v, rfl, ⟨p2, c2, rfl⟩, o2, k2⟩
        try go_wp2_with fail
        refine hK.out _ _ trivial (fun hHeld => ?_)
        clear hK K
        try simp only [Act.put, List.getElem_toArray, List.getElem_cons_succ, List.getElem_cons_zero, List.setIfInBounds_toArray, List.set_cons_zero, List.set_cons_succ]
        replace hbx := hbx.kept k2
        replace hrs := hrs.kept k2
        replace hbel := bt hbel k2
        replace o1 := owns_below o1 k2
        replace o2 := owns_mono o2 hsz
        replace hsz := Nat.le_trans hsz k2.size
        clear k2
        refine wpAnyH_ready (rs := [8]) (by kernel_rfl) (by simp) ?_
        refine AllReadyH.cons rfl (fun K hK => ?_) AllReadyH.nil
        go_simp
        refine (hG _ hbel).mono ?_
        rintro e W3 ⟨v, rfl, ⟨p3, c3, rfl⟩, o3, k3⟩
        try go_wp2_with fail
        refine hK.out _ _ trivial (fun hHeld => ?_)
        clear hK K
        try simp only [Act.put, List.getElem_toArray, List.getElem_cons_succ, List.getElem_cons_zero, List.setIfInBounds_toArray, List.set_cons_zero, List.set_cons_succ]
        replace hbx := hbx.kept k3
        replace hrs := hrs.kept k3
        replace hbel := bt hbel k3
        replace o1 := owns_below o1 k3
        replace o2 := owns_below o2 k3
        replace o3 := owns_mono o3 hsz
        replace hsz := Nat.le_trans hsz k3.size
        clear k3
        refine wpAnyH_ready (rs := [10]) (by kernel_rfl) (by simp) ?_
        refine AllReadyH.cons rfl (fun K hK => ?_) AllReadyH.nil
        rw [if_pos (by rfl)]
        refine wp_store_cell 22 (.tmp 14) (.tmp 7) rfl _ 3 (.slice p1 V.nd c1) rfl rfl hbx (by simp) (by kernel_rfl) rfl ?_
        intro Wn hbn htn
        replace hbel := htn.below hbel (Nat.le_refl _)
        replace hrs := hrs.turned htn (by omega)
        replace o1 := owns_turned o1 htn (far_lt o1)
        replace o2 := owns_turned o2 htn (far_lt o2)
        replace o3 := owns_turned o3 htn (far_lt o3)
        clear hbx
        have hbx := hbn
        clear hbn htn
        refine hK.out _ _ trivial (fun hHeld => ?_)
        clear hK K
        try simp only [Act.put, List.getElem_toArray, List.getElem_cons_succ, List.getElem_cons_zero, List.setIfInBounds_toArray, List.set_cons_zero, List.set_cons_succ]
        refine wpAnyH_take (i := 11) (v := ?_) rfl (by kernel_rfl) (by kernel_rfl) (by kernel_rfl) (fun _ _ _ h => h) (Or.inl ⟨by rfl, ?_⟩) hHeld ?_
        rotate_left
        · intro w' hSw; try dsimp only at hSw
          go_simp; try (with_reducible rfl)
        try simp only [Act.put, List.getElem_toArray, List.getElem_cons_succ, List.getElem_cons_zero, List.setIfInBounds_toArray, List.set_cons_zero, List.set_cons_succ]
        refine wpAnyH_ready (rs := [12]) (by kernel_rfl) (by simp) ?_
        refine AllReadyH.cons rfl (fun K hK => ?_) AllReadyH.nil
        rw [if_pos (by rfl)]
        refine wp_store_cell 23 (.tmp 15) (.tmp 10) rfl _ 4 (.slice p2 V.nh c2) rfl rfl hbx (by simp) (by kernel_rfl) rfl ?_
        intro Wn hbn htn
        replace hbel := htn.below hbel (Nat.le_refl _)
        replace hrs := hrs.turned htn (by omega)
        replace o1 := owns_turned o1 htn (far_lt o1)
        replace o2 := owns_turned o2 htn (far_lt o2)
        replace o3 := owns_turned o3 htn (far_lt o3)
        clear hbx
        have hbx := hbn
        clear hbn htn
        refine hK.out _ _ trivial (fun hHeld => ?_)
        clear hK K
        try simp only [Act.put, List.getElem_toArray, List.getElem_cons_succ, List.getElem_cons_zero, List.setIfInBounds_toArray, List.set_cons_zero, List.set_cons_succ]
        refine wpAnyH_take (i := 13) (v := ?_) rfl (by kernel_rfl) (by kernel_rfl) (by kernel_rfl) (fun _ _ _ h => h) (Or.inl ⟨by rfl, ?_⟩) hHeld ?_
        rotate_left
        · intro w' hSw; try dsimp only at hSw
          go_simp; try (with_reducible rfl)
        try simp only [Act.put, List.getElem_toArray, List.getElem_cons_succ, List.getElem_cons_zero, List.setIfInBounds_toArray, List.set_cons_zero, List.set_cons_succ]
        refine wpAnyH_ready (rs := [14]) (by kernel_rfl) (by simp) ?_
        refine AllReadyH.cons rfl (fun K hK => ?_) AllReadyH.nil
        rw [if_pos (by rfl)]
        refine wp_store_cell 26 (.tmp 16) (.tmp 13) rfl _ 8 (.slice p3 V.nl c3) rfl rfl hbx (by simp) (by kernel_rfl) rfl ?_
        intro Wn hbn htn
        replace hbel := htn.below hbel (Nat.le_refl _)
        replace hrs := hrs.turned htn (by omega)
        replace o1 := owns_turned o1 htn (far_lt o1)
        replace o2 := owns_turned o2 htn (far_lt o2)
        replace o3 := owns_turned o3 htn (far_lt o3)
        clear hbx
        have hbx := hbn
        clear hbn htn
        refine hK.out _ _ trivial (fun hHeld => ?_)
        clear hK K
        try simp only [Act.put, List.getElem_toArray, List.getElem_cons_succ, List.getElem_cons_zero, List.setIfInBounds_toArray, List.set_cons_zero, List.set_cons_succ]
        refine wpAnyH_done (by kernel_rfl) ?_ _
        refine NoPanic.normal ?_
        go_wp2_with fail
        go_meet
        case rel => exact ⟨rfl, p1, c1, p2, c2, p3, c3, hbel, hbx, ⟨_, rfl, hrs⟩, o1, o2, o3⟩
      refine AllReadyH.cons rfl (fun K hK => ?_) AllReadyH.nil
      have z := hbx.cell' (i := 4) rfl
      go_simp
      refine hK.out _ _ trivial (fun hHeld => ?_)
      clear hK K
      try simp only [Act.put, List.getElem_toArray, List.getElem_cons_succ, List.getElem_cons_zero, List.setIfInBounds_toArray, List.set_cons_zero, List.set_cons_succ]
      clear z
      refine wpAnyH_ready (rs := [2]) (by kernel_rfl) (by simp) ?_
      refine AllReadyH.cons rfl (fun K hK => ?_) AllReadyH.nil
      go_simp
      refine (hI _ hbel).mono ?_
      rintro e W1 ⟨v, rfl, ⟨p1, c1, rfl⟩, o1, k1⟩
      try go_wp2_with fail
      refine hK.out _ _ trivial (fun hHeld => ?_)
      clear hK K
      try simp only [Act.put, List.getElem_toArray, List.getElem_cons_succ, List.getElem_cons_zero, List.setIfInBounds_toArray, List.set_cons_zero, List.set_cons_succ]
      replace hbx := hbx.kept k1
      replace hrs := hrs.kept k1
      replace hbel := bt hbel k1
      replace o1 := owns_mono o1 hsz
      replace hsz := Nat.le_trans hsz k1.size
      clear k1
      refine wpAnyH_take (i := 9) (v := ?_) rfl (by kernel_rfl) (by kernel_rfl) (by kernel_rfl) (fun _ _ _ h => h) (Or.inl ⟨by rfl, ?_⟩) hHeld ?_
      rotate_left
      · intro w' hSw; try dsimp only at hSw
        go_simp; try (with_reducible rfl)
      try simp only [Act.put, List.getElem_toArray, List.getElem_cons_succ, List.getElem_cons_zero, List.setIfInBounds_toArray, List.set_cons_zero, List.set_cons_succ]
      refine wpAnyH_ready (rs := [5]) (by kernel_rfl) (by simp) ?_
      refine AllReadyH.cons rfl (fun K hK => ?_) AllReadyH.nil
      go_simp
      refine (hB _ hbel).mono ?_
      rintro e W2 ⟨v, rfl, ⟨p2, c2, rfl⟩, o2, k2⟩
      try go_wp2_with fail
      refine hK.out _ _ trivial (fun hHeld => ?_)
      clear hK K
      try simp only [Act.put, List.getElem_toArray, List.getElem_cons_succ, List.getElem_cons_zero, List.setIfInBounds_toArray, List.set_cons_zero, List.set_cons_succ]
      replace hbx := hbx.kept k2
      replace hrs := hrs.kept k2
      replace hbel := bt hbel k2
      replace o1 := owns_below o1 k2
      replace o2 := owns_mono o2 hsz
      replace hsz := Nat.le_trans hsz k2.size
      clear k2
      refine wpAnyH_ready (rs := [8]) (by kernel_rfl) (by simp) ?_
      refine AllReadyH.cons rfl (fun K hK => ?_) AllReadyH.nil
      go_simp
      refine (hG _ hbel).mono ?_
      rintro e W3 ⟨v, rfl, ⟨p3, c3, rfl⟩, o3, k3⟩
      try go_wp2_with fail
      refine hK.out _ _ trivial (fun hHeld => ?_)
      clear hK K
      try simp only [Act.put, List.getElem_toArray, List.getElem_cons_succ, List.getElem_cons_zero, List.setIfInBounds_toArray, List.set_cons_zero, List.set_cons_succ]
      replace hbx := hbx.kept k3
      replace hrs := hrs.kept k3
      replace hbel := bt hbel k3
      replace o1 := owns_below o1 k3
      replace o2 := owns_below o2 k3
      replace o3 := owns_mono o3 hsz
      replace hsz := Nat.le_trans hsz k3.size
      clear k3
      refine wpAnyH_ready (rs := [10]) (by kernel_rfl) (by simp) ?_
      refine AllReadyH.cons rfl (fun K hK => ?_) AllReadyH.nil
      rw [if_pos (by rfl)]
      refine wp_store_cell 22 (.tmp 14) (.tmp 7) rfl _ 3 (.slice p1 V.nd c1) rfl rfl hbx (by simp) (by kernel_rfl) rfl ?_
      intro Wn hbn htn
      replace hbel := htn.below hbel (Nat.le_refl _)
      replace hrs := hrs.turned htn (by omega)
      replace o1 := owns_turned o1 htn (far_lt o1)
      replace o2 := owns_turned o2 htn (far_lt o2)
      replace o3 := owns_turned o3 htn (far_lt o3)
      clear hbx
      have hbx := hbn
      clear hbn htn
      refine hK.out _ _ trivial (fun hHeld => ?_)
      clear hK K
      try simp only [Act.put, List.getElem_toArray, List.getElem_cons_succ, List.getElem_cons_zero, List.setIfInBounds_toArray, List.set_cons_zero, List.set_cons_succ]
      refine wpAnyH_take (i := 11) (v := ?_) rfl (by kernel_rfl) (by kernel_rfl) (by kernel_rfl) (fun _ _ _ h => h) (Or.inl ⟨by rfl, ?_⟩) hHeld ?_
      rotate_left
      · intro w' hSw; try dsimp only at hSw
        go_simp; try (with_reducible rfl)
      try simp only [Act.put, List.getElem_toArray, List.getElem_cons_succ, List.getElem_cons_zero, List.setIfInBounds_toArray, List.set_cons_zero, List.set_cons_succ]
      refine wpAnyH_ready (rs := [12]) (by kernel_rfl) (by simp) ?_
      refine AllReadyH.cons rfl (fun K hK => ?_) AllReadyH.nil
      rw [if_pos (by rfl)]
      refine wp_store_cell 23 (.tmp 15) (.tmp 10) rfl _ 4 (.slice p2 V.nh c2) rfl rfl hbx (by simp) (by kernel_rfl) rfl ?_
      intro Wn hbn htn
      replace hbel := htn.below hbel (Nat.le_refl _)
      replace hrs := hrs.turned htn (by omega)
      replace o1 := owns_turned o1 htn (far_lt o1)
      replace o2 := owns_turned o2 htn (far_lt o2)
      replace o3 := owns_turned o3 htn (far_lt o3)
      clear hbx
      have hbx := hbn
      clear hbn htn
      refine hK.out _ _ trivial (fun hHeld => ?_)
      clear hK K
      try simp only [Act.put, List.getElem_toArray, List.getElem_cons_succ, List.getElem_cons_zero, List.setIfInBounds_toArray, List.set_cons_zero, List.set_cons_succ]
      refine wpAnyH_take (i := 13) (v := ?_) rfl (by kernel_rfl) (by kernel_rfl) (by kernel_rfl) (fun _ _ _ h => h) (Or.inl ⟨by rfl, ?_⟩) hHeld ?_
      rotate_left
      · intro w' hSw; try dsimp only at hSw
        go_simp; try (with_reducible rfl)
      try simp only [Act.put, List.getElem_toArray, List.getElem_cons_succ, List.getElem_cons_zero, List.setIfInBounds_toArray, List.set_cons_zero, List.set_cons_succ]
      refine wpAnyH_ready (rs := [14]) (by kernel_rfl) (by simp) ?_
      refine AllReadyH.cons rfl (fun K hK => ?_) AllReadyH.nil
      rw [if_pos (by rfl)]
      refine wp_store_cell 26 (.tmp 16) (.tmp 13) rfl _ 8 (.slice p3 V.nl c3) rfl rfl hbx (by simp) (by kernel_rfl) rfl ?_
      intro Wn hbn htn
      replace hbel := htn.below hbel (Nat.le_refl _)
      replace hrs := hrs.turned htn (by omega)
      replace o1 := owns_turned o1 htn (far_lt o1)
      replace o2 := owns_turned o2 htn (far_lt o2)
      replace o3 := owns_turned o3 htn (far_lt o3)
      clear hbx
      have hbx := hbn
      clear hbn htn
      refine hK.out _ _ trivial (fun hHeld => ?_)
      clear hK K
      try simp only [Act.put, List.getElem_toArray, List.getElem_cons_succ, List.getElem_cons_zero, List.setIfInBounds_toArray, List.set_cons_zero, List.set_cons_succ]
      refine wpAnyH_done (by kernel_rfl) ?_ _
      refine NoPanic.normal ?_
      go_wp2_with fail
      go_meet
      case rel => exact ⟨rfl, p1, c1, p2, c2, p3, c3, hbel, hbx, ⟨_, rfl, hrs⟩, o1, o2, o3⟩
    refine AllReadyH.cons rfl (fun K hK => ?_) AllReadyH.nil
    have z := hbx.cell' (i := 4) rfl
    go_simp
    refine hK.out _ _ trivial (fun hHeld => ?_)
    clear hK K
    try simp only [Act.put, List.getElem_toArray, List.getElem_cons_succ, List.getElem_cons_zero, List.setIfInBounds_toArray, List.set_cons_zero, List.set_cons_succ]
    clear z
    refine wpAnyH_ready (rs := [1]) (by kernel_rfl) (by simp) ?_
    refine AllReadyH.cons rfl (fun K hK => ?_) AllReadyH.nil
    have z := hbx.cell' (i := 3) rfl
    go_simp
    refine hK.out _ _ trivial (fun hHeld => ?_)
    clear hK K
    try simp only [Act.put, List.getElem_toArray, List.getElem_cons_succ, List.getElem_cons_zero, List.setIfInBounds_toArray, List.set_cons_zero, List.set_cons_succ]
    clear z
    refine wpAnyH_ready (rs := [2]) (by kernel_rfl) (by simp) ?_
    refine AllReadyH.cons rfl (fun K hK => ?_) AllReadyH.nil
    go_simp
    refine (hI _ hbel).mono ?_
    rintro e W1 ⟨v, rfl, ⟨p1, c1, rfl⟩, o1, k1⟩
    try go_wp2_with fail
    refine hK.out _ _ trivial (fun hHeld => ?_)
    clear hK K
    try simp only [Act.put, List.getElem_toArray, List.getElem_cons_succ, List.getElem_cons_zero, List.setIfInBounds_toArray, List.set_cons_zero, List.set_cons_succ]
    replace hbx := hbx.kept k1
    replace hrs := hrs.kept k1
    replace hbel := bt hbel k1
    replace o1 := owns_mono o1 hsz
    replace hsz := Nat.le_trans hsz k1.size
    clear k1
    refine wpAnyH_take (i := 9) (v := ?_) rfl (by kernel_rfl) (by kernel_rfl) (by kernel_rfl) (fun _ _ _ h => h) (Or.inl ⟨by rfl, ?_⟩) hHeld ?_
    rotate_left
    · intro w' hSw; try dsimp only at hSw
      go_simp; try (with_reducible rfl)
    try simp only [Act.put, List.getElem_toArray, List.getElem_cons_succ, List.getElem_cons_zero, List.setIfInBounds_toArray, List.set_cons_zero, List.set_cons_succ]
    refine wpAnyH_ready (rs := [5]) (by kernel_rfl) (by simp) ?_
    refine AllReadyH.cons rfl (fun K hK => ?_) AllReadyH.nil
    go_simp
    refine (hB _ hbel).mono ?_
    rintro e W2 ⟨v, rfl, ⟨p2, c2, rfl⟩, o2, k2⟩
    try go_wp2_with fail
    refine hK.out _ _ trivial (fun hHeld => ?_)
    clear hK K
    try simp only [Act.put, List.getElem_toArray, List.getElem_cons_succ, List.getElem_cons_zero, List.setIfInBounds_toArray, List.set_cons_zero, List.set_cons_succ]
    replace hbx := hbx.kept k2
    replace hrs := hrs.kept k2
    replace hbel := bt hbel k2
    replace o1 := owns_below o1 k2
    replace o2 := owns_mono o2 hsz
    replace hsz := Nat.le_trans hsz k2.size
    clear k2
    refine wpAnyH_ready (rs := [8]) (by kernel_rfl) (by simp) ?_
    refine AllReadyH.cons rfl (fun K hK => ?_) AllReadyH.nil
    go_simp
    refine (hG _ hbel).mono ?_
    rintro e W3 ⟨v, rfl, ⟨p3, c3, rfl⟩, o3, k3⟩
    try go_wp2_with fail
    refine hK.out _ _ trivial (fun hHeld => ?_)
    clear hK K
    try simp only [Act.put, List.getElem_toArray, List.getElem_cons_succ, List.getElem_cons_zero, List.setIfInBounds_toArray, List.set_cons_zero, List.set_cons_succ]
    replace hbx := hbx.kept k3
    replace hrs := hrs.kept k3
    replace hbel := bt hbel k3
    replace o1 := owns_below o1 k3
    replace o2 := owns_below o2 k3
    replace o3 := owns_mono o3 hsz
    replace hsz := Nat.le_trans hsz k3.size
    clear k3
    refine wpAnyH_ready (rs := [10]) (by kernel_rfl) (by simp) ?_
    refine AllReadyH.cons rfl (fun K hK => ?_) AllReadyH.nil
    rw [if_pos (by rfl)]
    refine wp_store_cell 22 (.tmp 14) (.tmp 7) rfl _ 3 (.slice p1 V.nd c1) rfl rfl hbx (by simp) (by kernel_rfl) rfl ?_
    intro Wn hbn htn
    replace hbel := htn.below hbel (Nat.le_refl _)
    replace hrs := hrs.turned htn (by omega)
    replace o1 := owns_turned o1 htn (far_lt o1)
    replace o2 := owns_turned o2 htn (far_lt o2)
    replace o3 := owns_turned o3 htn (far_lt o3)
    clear hbx
    have hbx := hbn
    clear hbn htn
    refine hK.out _ _ trivial (fun hHeld => ?_)
    clear hK K
    try simp only [Act.put, List.getElem_toArray, List.getElem_cons_succ, List.getElem_cons_zero, List.setIfInBounds_toArray, List.set_cons_zero, List.set_cons_succ]
    refine wpAnyH_take (i := 11) (v := ?_) rfl (by kernel_rfl) (by kernel_rfl) (by kernel_rfl) (fun _ _ _ h => h) (Or.inl ⟨by rfl, ?_⟩) hHeld ?_
    rotate_left
    · intro w' hSw; try dsimp only at hSw
      go_simp; try (with_reducible rfl)
    try simp only [Act.put, List.getElem_toArray, List.getElem_cons_succ, List.getElem_cons_zero, List.setIfInBounds_toArray, List.set_cons_zero, List.set_cons_succ]
    refine wpAnyH_ready (rs := [12]) (by kernel_rfl) (by simp) ?_
    refine AllReadyH.cons rfl (fun K hK => ?_) AllReadyH.nil
    rw [if_pos (by rfl)]
    refine wp_store_cell 23 (.tmp 15) (.tmp 10) rfl _ 4 (.slice p2 V.nh c2) rfl rfl hbx (by simp) (by kernel_rfl) rfl ?_
    intro Wn hbn htn
    replace hbel := htn.below hbel (Nat.le_refl _)
    replace hrs := hrs.turned htn (by omega)
    replace o1 := owns_turned o1 htn (far_lt o1)
    replace o2 := owns_turned o2 htn (far_lt o2)
    replace o3 := owns_turned o3 htn (far_lt o3)
    clear hbx
    have hbx := hbn
    clear hbn htn
    refine hK.out _ _ trivial (fun hHeld => ?_)
    clear hK K
    try simp only [Act.put, List.getElem_toArray, List.getElem_cons_succ, List.getElem_cons_zero, List.setIfInBounds_toArray, List.set_cons_zero, List.set_cons_succ]
    refine wpAnyH_take (i := 13) (v := ?_) rfl (by kernel_rfl) (by kernel_rfl) (by kernel_rfl) (fun _ _ _ h => h) (Or.inl ⟨by rfl, ?_⟩) hHeld ?_
    rotate_left
    · intro w' hSw; try dsimp only at hSw
      go_simp; try (with_reducible rfl)
    try simp only [Act.put, List.getElem_toArray, List.getElem_cons_succ, List.getElem_cons_zero, List.setIfInBounds_toArray, List.set_cons_zero, List.set_cons_succ]
    refine wpAnyH_ready (rs := [14]) (by kernel_rfl) (by simp) ?_
    refine AllReadyH.cons rfl (fun K hK => ?_) AllReadyH.nil
    rw [if_pos (by rfl)]
    refine wp_store_cell 26 (.tmp 16) (.tmp 13) rfl _ 8 (.slice p3 V.nl c3) rfl rfl hbx (by simp) (by kernel_rfl) rfl ?_
    intro Wn hbn htn
    replace hbel := htn.below hbel (Nat.le_refl _)
    replace hrs := hrs.turned htn (by omega)
    replace o1 := owns_turned o1 htn (far_lt o1)
    replace o2 := owns_turned o2 htn (far_lt o2)
    replace o3 := owns_turned o3 htn (far_lt o3)
    clear hbx
    have hbx := hbn
    clear hbn htn
    refine hK.out _ _ trivial (fun hHeld => ?_)
    clear hK K
    try simp only [Act.put, List.getElem_toArray, List.getElem_cons_succ, List.getElem_cons_zero, List.setIfInBounds_toArray, List.set_cons_zero, List.set_cons_succ]
    refine wpAnyH_done (by kernel_rfl) ?_ _
    refine NoPanic.normal ?_
    go_wp2_with fail
    go_meet
    case rel => exact ⟨rfl, p1, c1, p2, c2, p3, c3, hbel, hbx, ⟨_, rfl, hrs⟩, o1, o2, o3⟩
  case rest =>
    obtain ⟨rfl, p1, c1, p2, c2, p3, c3, hbel, hbx, ⟨rcs, hrl, hrs⟩, o1, o2, o3⟩ := hcut
    have HC0 : CL w V T p1 p2 p3 c1 c2 c3 R0 [] wc := ⟨hbel, hbx, ⟨rcs, hrl, hrs⟩, o1, o2, by simpa using o3, fun i r hi => by simp at hi, by simp, fun i j r s a b _ hi => by simp at hi, fun i r a b hi => by simp at hi⟩
    have z8 := hbx.cell' (i := 8) rfl
    clear hbel hrs o1 o2 o3 hrl hI hB hG hb0 b0 r0
    go_wp2_with fail
    go_loopw [20] (fun i wr => ∃ R' : List LR, R'.length ≤ V.nl ∧ i = .int .i64 R'.length ∧ CL w V T p1 p2 p3 c1 c2 c3 R0 R' wr) (fun i _ => V.nl - (intOf i).toNat)
    case atStart => exact ⟨[], Nat.zero_le _, rfl, HC0⟩
    case round =>
      clear HC0 z8 hbx
      obtain ⟨R', hk, rfl, hc⟩ := hrel
      obtain ⟨k, hkk⟩ : ∃ k, R'.length = k := ⟨_, rfl⟩
      rw [hkk] at hk ⊢
      by_cases hlt : k < V.nl
      · obtain ⟨x0, hr0⟩ : ∃ r, R0[R'.length]? = some r := ⟨_, List.getElem?_eq_getElem (by rw [HL0.out, hkk]; exact hlt)⟩
        obtain ⟨f0, f1⟩ := flatR_at (split_at hr0)
        rw [hkk] at f0 f1
        have hg : ∃ g3, p3 = some ⟨g3, 0, none⟩ := by
          rcases hc.l.2 with ⟨_, h0⟩ | ⟨g, cap, cur, hv, _⟩
          · omega
          · simp only [Value.slice.injEq] at hv
            exact ⟨g, hv.1⟩
        obtain ⟨g3, rfl⟩ := hg
        have q0 := hc.l.cellAt (k * 2) (by omega)
        have q1 := hc.l.cellAt (k * 2 + 1) (by omega)
        rw [hkk] at q0 q1
        rw [f0] at q0
        rw [f1, LR.v] at q1
        have hin := HR0in.out _ _ hr0
        have hpl : x0.pages.length ≤ 1000000 := HN4.out R'.length x0.log (by rw [← HR0.out, List.getElem?_map, hr0]; rfl)
        have HRK : Hid (R'.length = k ∧ R0[R'.length]? = some x0) := ⟨hkk, hr0⟩
        have hk1 : (k : Int) < (V.nl : Int) := Int.ofNat_lt.2 hlt
        have hA := below_alloc wr (.cells #[.int .i64 x0.phys, .slice x0.p x0.pages.length x0.c] 61)
        have bl := Blk.new' wr 61 #[.int .i64 x0.phys, .slice x0.p x0.pages.length x0.c]
        have hcA := hc.next hA
        have hg3lt := (hc.l.lt g3 rfl).2
        clear hkk hr0 f0 f1 hc
        have HXL : Hid (x0.pages.length = x0.pages.length) := rfl
        obtain ⟨xm, hxm⟩ : ∃ m, x0.pages.length = m := ⟨_, rfl⟩
        rw [hxm] at q1 hA bl hcA hpl hin
        have HXM : Hid (x0.pages.length = xm) := hxm
        clear hxm HXL
        obtain ⟨xph, hxph⟩ : ∃ m, x0.phys = m := ⟨_, rfl⟩
        rw [hxph] at q0 hA bl hcA
        have HXP : Hid (x0.phys = xph) := hxph
        clear hxph
        go_upto_region 5 with fail
        generalize wr.alloc (.cells #[.int .i64 xph, .slice x0.p xm x0.c] 61) = WA at *
        have hgl := bl.lt
        generalize wr.heap.size = GL at *
        clear q0 q1 hA
        have hIx := fun W' (hb : Below w.heap.size w W') => cloneI_any x0.p xm x0.c x0.pages W' (hin.below hb) (by omega)
        refine wp_region_noPanic ?_
        refine wp_region_held_drew (S := fun W' => Blk W' w.heap.size 28 [.int .i64 T.pages, .int .i64 T.logical, .int .i64 T.k, .slice p1 V.nd c1, .slice p2 V.nh c2, .int .i64 T.sp, .int .i64 T.sl, .int .i64 T.su, .slice (some ⟨g3, 0, none⟩) V.nl c3] ∧ Blk W' GL 61 [.int .i64 xph, .slice x0.p xm x0.c]) (by kernel_rfl) ⟨hcA.box.drew, bl.drew⟩ (fun hHeld => ?_)
        refine wpAnyH_take (i := 0) (v := ?_) rfl (by kernel_rfl) (by kernel_rfl) (by kernel_rfl) (fun _ _ _ h => h) (Or.inl ⟨by rfl, ?_⟩) hHeld ?_
        rotate_left
        · intro w' hSw; try dsimp only at hSw
          go_simp; try (with_reducible rfl)
        try simp only [Act.put, List.getElem_toArray, List.getElem_cons_succ, List.getElem_cons_zero, List.setIfInBounds_toArray, List.set_cons_zero, List.set_cons_succ]
        refine wpAnyH_take (i := 1) (v := ?_) rfl (by kernel_rfl) (by kernel_rfl) (by kernel_rfl) (fun _ _ _ h => h) (Or.inl ⟨by rfl, ?_⟩) hHeld ?_
        rotate_left
        · intro w' hSw; try dsimp only at hSw
          have z8 := hSw.1.cell' (i := 8) rfl
          go_simp; try (with_reducible rfl)
        try simp only [Act.put, List.getElem_toArray, List.getElem_cons_succ, List.getElem_cons_zero, List.setIfInBounds_toArray, List.set_cons_zero, List.set_cons_succ]
        refine wpAnyH_take (i := 2) (v := ?_) rfl (by kernel_rfl) (by kernel_rfl) (by kernel_rfl) (fun _ _ _ h => h) (Or.inl ⟨by rfl, ?_⟩) hHeld ?_
        rotate_left
        · intro w' hSw; try dsimp only at hSw
          go_simp; try (with_reducible rfl)
        try simp only [Act.put, List.getElem_toArray, List.getElem_cons_succ, List.getElem_cons_zero, List.setIfInBounds_toArray, List.set_cons_zero, List.set_cons_succ]
        refine wpAnyH_take (i := 3) (v := ?_) rfl (by kernel_rfl) (by kernel_rfl) (by kernel_rfl) (fun _ _ _ h => h) (Or.inl ⟨by rfl, ?_⟩) hHeld ?_
        rotate_left
        · intro w' hSw; try dsimp only at hSw
          go_simp; try (with_reducible rfl)
        try simp only [Act.put, List.getElem_toArray, List.getElem_cons_succ, List.getElem_cons_zero, List.setIfInBounds_toArray, List.set_cons_zero, List.set_cons_succ]
        refine wpAnyH_take (i := 4) (v := ?_) rfl (by kernel_rfl) (by kernel_rfl) (by kernel_rfl) (fun _ _ _ h => h) (Or.inl ⟨by rfl, ?_⟩) hHeld ?_
        rotate_left
        · intro w' hSw; try dsimp only at hSw
          have z1 := hSw.2.cell' (i := 1) rfl
          go_simp; try (with_reducible rfl)
        try simp only [Act.put, List.getElem_toArray, List.getElem_cons_succ, List.getElem_cons_zero, List.setIfInBounds_toArray, List.set_cons_zero, List.set_cons_succ]
        have hcD : CL w V T p1 p2 (some ⟨g3, 0, none⟩) c1 c2 c3 R0 R' WA.drew := hcA.next ((Below.refl _ _).drew)
        replace hgl : GL < WA.drew.heap.size := hgl
        clear hcA bl
        generalize WA.drew = WD at *
        refine wpAnyH_ready (rs := [5]) (by kernel_rfl) (by simp) ?_
        refine AllReadyH.cons rfl (fun K hK => ?_) AllReadyH.nil
        go_simp
        refine (hIx _ hcD.bel).mono ?_
        rintro e W1 ⟨v, rfl, ⟨pn, cn, rfl⟩, on, kn⟩
        try go_wp2_with fail
        refine hK.out _ _ ⟨hHeld.1.kept kn, hHeld.2.kept kn⟩ (fun hHeld => ?_)
        clear hK K
        try simp only [Act.put, List.getElem_toArray, List.getElem_cons_succ, List.getElem_cons_zero, List.setIfInBounds_toArray, List.set_cons_zero, List.set_cons_succ]
        have hc1 := hcD.next kn
        refine wpAnyH_take (i := 6) (v := ?_) rfl (by kernel_rfl) (by kernel_rfl) (by kernel_rfl) (fun _ _ _ h => h) (Or.inl ⟨by rfl, ?_⟩) hHeld ?_
        rotate_left
        · intro w' hSw; try dsimp only at hSw
          go_simp; try (with_reducible rfl)
        try simp only [Act.put, List.getElem_toArray, List.getElem_cons_succ, List.getElem_cons_zero, List.setIfInBounds_toArray, List.set_cons_zero, List.set_cons_succ]
        refine wpAnyH_take (i := 7) (v := ?_) rfl (by kernel_rfl) (by kernel_rfl) (by kernel_rfl) (fun _ _ _ h => h) (Or.inl ⟨by rfl, ?_⟩) hHeld ?_
        rotate_left
        · intro w' hSw; try dsimp only at hSw
          go_simp; try (with_reducible rfl)
        try simp only [Act.put, List.getElem_toArray, List.getElem_cons_succ, List.getElem_cons_zero, List.setIfInBounds_toArray, List.set_cons_zero, List.set_cons_succ]
        refine wpAnyH_ready (rs := [8]) (by kernel_rfl) (by simp) ?_
        refine AllReadyH.cons rfl (fun K hK => ?_) AllReadyH.nil
        rw [if_pos (by rfl)]
        refine wp_store_row 22 (.tmp 32) (.tmp 30) rfl g3 (k * 2 + 1) (.slice pn xm cn) (by go_simp) (by go_simp) hc1.l (by omega) (by kernel_rfl) rfl ?_
        intro W2 ol ht
        have hg3 := (hc1.l.lt g3 rfl).1
        have hgn : GL ≠ g3 := by omega
        have hcN := CL.snoc (x := ⟨xph, pn, cn, x0.pages⟩) hc1 HRK.out.2 HR0.out HXP.out.symm rfl (by obtain ⟨_, _, hr⟩ := hcD.res; exact hr.lt) hcD (by rw [LR.v]; simp only [HXM.out]; exact on) ht (by rw [HRK.out.1, LR.v]; simp only [HXM.out]; rw [HRK.out.1] at ol; exact ol)
        refine hK.out _ _ ⟨hHeld.1.turned ht (by omega), hHeld.2.turned ht hgn⟩ (fun hHeld => ?_)
        clear hK K
        try simp only [Act.put, List.getElem_toArray, List.getElem_cons_succ, List.getElem_cons_zero, List.setIfInBounds_toArray, List.set_cons_zero, List.set_cons_succ]
        refine wpAnyH_done (by kernel_rfl) ?_ _
        refine NoPanic.normal ?_
        go_wp2_with fail
        go_roundw
        case rel => exact ⟨R' ++ [⟨xph, pn, cn, x0.pages⟩], by rw [List.length_append, HRK.out.1]; simp; omega, by rw [List.length_append, HRK.out.1]; go_num, hcN⟩
        case measure => simp [intOf]; omega
      · have hkn : k = V.nl := by omega
        rw [hkn] at hkk ⊢
        clear hkn hlt hk
        obtain ⟨cs, hcl, hres⟩ := hc.res
        have z0 := hc.box.cell' (i := 0) rfl; have z1 := hc.box.cell' (i := 1) rfl; have z2 := hc.box.cell' (i := 2) rfl; have z3 := hc.box.cell' (i := 3) rfl; have z4 := hc.box.cell' (i := 4) rfl; have z5 := hc.box.cell' (i := 5) rfl; have z6 := hc.box.cell' (i := 6) rfl; have z7 := hc.box.cell' (i := 7) rfl; have z8 := hc.box.cell' (i := 8) rfl
        have hown : OwnT (w.heap.size + 2) wr ⟨p1, V.nd, c1, p2, V.nh, c2, p3, V.nl, c3⟩ T R' := ⟨by rw [hc.map, hkk]; exact (List.take_of_length_le (by rw [← HR0.out, List.length_map, HL0.out]; exact Nat.le_refl _)).symm, hc.d, hc.h, by have := hc.l; rw [hkk, List.drop_of_length_le (by rw [HL0.out]; exact Nat.le_refl _), List.append_nil] at this; exact this, hc.r, hc.ap, hc.ad, hm1, hm2, hnn, fun i r hi => HN4.out i r.log (by
          have : (R'.map LR.log)[i]? = some r.log := by rw [List.getElem?_map, hi]; rfl
          rw [hc.map, hkk] at this
          rw [List.getElem?_take] at this
          split at this
          · exact this
          · cases this)⟩
        have HOWN : Hid (OwnT (w.heap.size + 2) wr ⟨p1, V.nd, c1, p2, V.nh, c2, p3, V.nl, c3⟩ T R') := hown
        have HBEL : Hid (Below w.heap.size w wr) := hc.bel
        clear hown hc hkk
        go_wp2_with (refine wpList_store_blk rfl 28 (.tmp 2) (.tmp 34) rfl (w.heap.size + 1) 0 (tabC ⟨p1, V.nd, c1, p2, V.nh, c2, p3, V.nl, c3⟩ T) rfl rfl hres (by rw [hcl]; exact Nat.le_refl _) (tabSize _ _) (tabOne _ _) ?_; intro W9 h9 ht9; rw [whole_row (by rw [hcl]; rfl)] at h9)
        refine ret_tab Try.results38 rfl h9 rfl ⟨⟨p1, V.nd, c1, p2, V.nh, c2, p3, V.nl, c3⟩, R', rfl, rfl, rfl, rfl, ?_, ht9.below HBEL.out (by omega)⟩
        exact (HOWN.out.turned1 ht9).low (by omega)
end Go.Proofs.Ythibaefoioeghaa
