/-
  What the reference's Same, New and Check answer.
-/
import Derived.Test.YtpikaagdiafieaaMjBegun
namespace Go.Proofs.Ytpikaagdiafieaa
open Go.RowKit
theorem rnums_any (p q : Option Addr) (n c m d : Nat) (xs ys : List Int) (w : World) (hx : InI w p n c xs) (hy : InI w q m d ys) :
    Calls Try.prog 51 #[.slice p n c, .slice q m d] w fun e w' => e = .returned (.bool (xs == ys)) ∧ Below w.heap.size w w' := by
  have hroom := hx.room
  have HX : Hid (xs.length = n) := hx.len
  have HY : Hid (ys.length = m) := hy.len
  by_cases hnm : n = m
  · subst hnm
    go_enter Try.func51, Try.ntmps51
    go_wp2
    go_loopw [5] (fun i wr => ∃ k : Nat, k ≤ n ∧ i = .int .i64 k ∧ (∃ j, wr = w.drewN j) ∧ ∀ i, i < k → eI xs i = eI ys i) (fun i _ => n - (intOf i).toNat)
    case atStart => exact ⟨0, Nat.zero_le _, rfl, ⟨0, rfl⟩, fun i h => by omega⟩
    case round =>
      obtain ⟨k, hk, rfl, ⟨j, rfl⟩, hall⟩ := hrel
      have HA : Hid (∀ i, i < k → eI xs i = eI ys i) := hall
      clear hall
      by_cases hlt : k < n
      · obtain ⟨b, o, rfl, hb, hc⟩ := hx.at' (by omega)
        obtain ⟨b', o', rfl, hb', hc'⟩ := hy.at' (by omega)
        have hck := hc k hlt
        have hck' := hc' k hlt
        clear hc hc'
        cases hq : (eI xs k != eI ys k) with
        | true =>
          have HN : Hid ((xs == ys) = false) := ne_listI hq
          go_wp2
          go_quiet (fail)
          go_wp2
          go_ret
          exact ⟨ret_bool HN.out.symm, below_drewN (below_drewN (Below.refl _ _) _) _⟩
        | false =>
          have HE : Hid (eI xs k = eI ys k) := WalkArith.int_eq' hq
          go_wp2
          go_quiet (fail)
          go_wp2
          go_roundw
          case rel =>
            refine ⟨k + 1, by omega, by go_num, ⟨_, rfl⟩, fun i hi => ?_⟩
            rcases Nat.lt_succ_iff_lt_or_eq.1 hi with h | h
            · exact HA.out i h
            · rw [h]; exact HE.out
          case measure => simp [intOf]; omega
      · go_wp2
        go_ret
        refine ⟨ret_bool ?_, below_drewN (Below.refl _ _) _⟩
        rw [eq_listI xs ys (by rw [HX.out, HY.out]) (fun i hi => HA.out i (by have := HX.out; omega))]
        simp
  · have hne : ((n : Int) != (m : Int)) = true := by rw [bne_iff_ne]; omega
    have HN : Hid ((xs == ys) = false) := ne_listL HX.out HY.out hnm
    clear hnm
    go_enter Try.func51, Try.ntmps51
    go_wp2
    go_ret
    exact ⟨ret_bool HN.out.symm, Below.refl _ _⟩
theorem rbools_any (p q : Option Addr) (n c m d : Nat) (xs ys : List Bool) (w : World) (hx : InB w p n c xs) (hy : InB w q m d ys) :
    Calls Try.prog 50 #[.slice p n c, .slice q m d] w fun e w' => e = .returned (.bool (xs == ys)) ∧ Below w.heap.size w w' := by
  have hroom := hx.room
  have HX : Hid (xs.length = n) := hx.len
  have HY : Hid (ys.length = m) := hy.len
  by_cases hnm : n = m
  · subst hnm
    go_enter Try.func50, Try.ntmps50
    go_wp2
    go_loopw [5] (fun i wr => ∃ k : Nat, k ≤ n ∧ i = .int .i64 k ∧ (∃ j, wr = w.drewN j) ∧ ∀ i, i < k → eB xs i = eB ys i) (fun i _ => n - (intOf i).toNat)
    case atStart => exact ⟨0, Nat.zero_le _, rfl, ⟨0, rfl⟩, fun i h => by omega⟩
    case round =>
      obtain ⟨k, hk, rfl, ⟨j, rfl⟩, hall⟩ := hrel
      have HA : Hid (∀ i, i < k → eB xs i = eB ys i) := hall
      clear hall
      by_cases hlt : k < n
      · obtain ⟨b, o, rfl, hb, hc⟩ := hx.at' (by omega)
        obtain ⟨b', o', rfl, hb', hc'⟩ := hy.at' (by omega)
        have hck := hc k hlt
        have hck' := hc' k hlt
        clear hc hc'
        cases h1 : eB xs k with
        | true =>
          rw [h1] at hck
          cases h2 : eB ys k with
          | true =>
            rw [h2] at hck'
            have HE : Hid (eB xs k = eB ys k) := h1.trans h2.symm
            clear h1 h2
            go_wp2
            go_quiet (fail)
            go_wp2
            go_roundw
            case rel =>
              refine ⟨k + 1, by omega, by go_num, ⟨_, rfl⟩, fun i hi => ?_⟩
              rcases Nat.lt_succ_iff_lt_or_eq.1 hi with h | h
              · exact HA.out i h
              · rw [h]; exact HE.out
            case measure => simp [intOf]; omega
          | false =>
            rw [h2] at hck'
            have HN : Hid ((xs == ys) = false) := ne_listB (k := k) (by rw [h1, h2]; rfl)
            clear h1 h2
            go_wp2
            go_quiet (fail)
            go_wp2
            go_ret
            exact ⟨ret_bool HN.out.symm, below_drewN (below_drewN (Below.refl _ _) _) _⟩
        | false =>
          rw [h1] at hck
          cases h2 : eB ys k with
          | true =>
            rw [h2] at hck'
            have HN : Hid ((xs == ys) = false) := ne_listB (k := k) (by rw [h1, h2]; rfl)
            clear h1 h2
            go_wp2
            go_quiet (fail)
            go_wp2
            go_ret
            exact ⟨ret_bool HN.out.symm, below_drewN (below_drewN (Below.refl _ _) _) _⟩
          | false =>
            rw [h2] at hck'
            have HE : Hid (eB xs k = eB ys k) := h1.trans h2.symm
            clear h1 h2
            go_wp2
            go_quiet (fail)
            go_wp2
            go_roundw
            case rel =>
              refine ⟨k + 1, by omega, by go_num, ⟨_, rfl⟩, fun i hi => ?_⟩
              rcases Nat.lt_succ_iff_lt_or_eq.1 hi with h | h
              · exact HA.out i h
              · rw [h]; exact HE.out
            case measure => simp [intOf]; omega
      · go_wp2
        go_ret
        refine ⟨ret_bool ?_, below_drewN (Below.refl _ _) _⟩
        rw [eq_listB xs ys (by rw [HX.out, HY.out]) (fun i hi => HA.out i (by have := HX.out; omega))]
        simp
  · have hne : ((n : Int) != (m : Int)) = true := by rw [bne_iff_ne]; omega
    have HN : Hid ((xs == ys) = false) := ne_listBL HX.out HY.out hnm
    clear hnm
    go_enter Try.func50, Try.ntmps50
    go_wp2
    go_ret
    exact ⟨ret_bool HN.out.symm, Below.refl _ _⟩
theorem rsame_any (V U : SV) (a b : MS) (w : World) (ha : InS w V a) (hb : InS w U b) :
    Calls Try.prog 14 #[V.val a, U.val b] w fun e w' => e = .returned (.bool (sameS a b)) ∧ Below w.heap.size w w' := by
  have h0 := B2.start w V U a b
  obtain ⟨x0, x1, x2⟩ := h0.ba.cells3
  obtain ⟨y0, y1, y2⟩ := h0.bb.cells3
  cases hB : a.bad == b.bad with
  | false =>
    have E : Hid (sameS a b = false) := by show _ = _; unfold sameS; rw [hB]; simp
    go_enter Try.func14, Try.ntmps14
    go_wp2_with (go_at_call 50; refine (rbools_any _ _ _ _ _ _ a.bad b.bad _ (ha.b.below h0.bel) (hb.b.below h0.bel)).mono ?_; rintro e w1 ⟨rfl, hb1⟩; rw [hB])
    go_ret
    exact ⟨ret_bool E.out.symm, bt h0.bel hb1⟩
  | true =>
    cases hW : a.wear == b.wear with
    | false =>
      have E : Hid (sameS a b = false) := by show _ = _; unfold sameS; rw [hB, hW]; simp
      go_enter Try.func14, Try.ntmps14
      go_wp2_with (first
        | (go_at_call 50; refine (rbools_any _ _ _ _ _ _ a.bad b.bad _ (ha.b.below h0.bel) (hb.b.below h0.bel)).mono ?_; rintro e w1 ⟨rfl, hb1⟩; rw [hB]; have h1 := h0.next hb1; obtain ⟨x0, x1, x2⟩ := h1.ba.cells3; obtain ⟨y0, y1, y2⟩ := h1.bb.cells3)
        | (go_at_call 51; refine (rnums_any _ _ _ _ _ _ a.wear b.wear _ (ha.v.below h1.bel) (hb.v.below h1.bel)).mono ?_; rintro e w2 ⟨rfl, hb2⟩; rw [hW]))
      go_ret
      exact ⟨ret_bool E.out.symm, bt h1.bel hb2⟩
    | true =>
      have E : Hid (sameS a b = (a.seq == b.seq)) := by
        show _ = _; unfold sameS; rw [hB, hW, Bool.and_true, Bool.and_true]; cases h : (a.seq == b.seq) <;> simp_all
      go_enter Try.func14, Try.ntmps14
      go_wp2_with (first
        | (go_at_call 50; refine (rbools_any _ _ _ _ _ _ a.bad b.bad _ (ha.b.below h0.bel) (hb.b.below h0.bel)).mono ?_; rintro e w1 ⟨rfl, hb1⟩; rw [hB]; have h1 := h0.next hb1; obtain ⟨x0, x1, x2⟩ := h1.ba.cells3; obtain ⟨y0, y1, y2⟩ := h1.bb.cells3)
        | (go_at_call 51; refine (rnums_any _ _ _ _ _ _ a.wear b.wear _ (ha.v.below h1.bel) (hb.v.below h1.bel)).mono ?_; rintro e w2 ⟨rfl, hb2⟩; rw [hW]; have h2 := h1.next hb2; obtain ⟨x0, x1, x2⟩ := h2.ba.cells3; obtain ⟨y0, y1, y2⟩ := h2.bb.cells3))
      go_ret
      exact ⟨ret_bool E.out.symm, h2.bel⟩
set_option linter.unusedSimpArgs false in
set_option maxRecDepth 100000 in
set_option maxHeartbeats 1000000 in
theorem rnew_any (i : Int) (w : World) : Calls Try.prog 10 #[.int .i64 i] w (ResS w (newR i)) := by
  have r0 := Blk.new' w 25 #[.slice none 0 0, .slice none 0 0, .int .i64 0]
  have hb0 := below_alloc w (.cells #[.slice none 0 0, .slice none 0 0, .int .i64 0] 25)
  by_cases hn : 16 ≤ i ∧ i ≤ 256
  · obtain ⟨n, rfl⟩ : ∃ n : Nat, i = (n : Int) := ⟨i.toNat, by omega⟩
    have E : Hid (newR (n : Int) = (newMS n, 0)) := by show _ = _; unfold newR; rw [if_pos hn, Int.toNat_natCast]
    have hmk := make_bools n (by omega)
    have hmz := make_zeros n (by omega)
    go_enter Try.func10, Try.ntmps10
    have hi1 : ¬ (n : Int) < 16 := by omega
    have hi2 : ¬ (n : Int) > 256 := by omega
    go_upto_region 3 with (fail)
    generalize hW : w.alloc (.cells #[.slice none 0 0, .slice none 0 0, .int .i64 0] 25) = W0 at *
    have hsz : w.heap.size + 1 ≤ W0.heap.size := by rw [← hW, World.size_alloc]; exact Nat.le_refl _
    clear hW
    refine wp_region_noPanic ?_
    refine wp_region_held_drew (S := fun W => Below w.heap.size w W ∧ ∃ cs : List Value, cs.length = 3 ∧ Blk W w.heap.size 25 cs) (by kernel_rfl) ⟨hb0.drew, ⟨_, rfl, r0.drew⟩⟩ (fun hHeld => ?_)
    replace hsz : w.heap.size + 1 ≤ W0.drew.heap.size := hsz
    clear hb0 r0
    generalize W0.drew = W0 at *
    refine wpAnyH_take (i := 0) (v := ?_) rfl (by kernel_rfl) (by kernel_rfl) (by kernel_rfl) (fun _ _ _ h => h) (Or.inl ⟨by rfl, ?_⟩) hHeld ?_
    rotate_left
    · intro w' hSw; try dsimp only at hSw
      go_simp; try (with_reducible rfl)
    try simp only [Act.put, List.getElem_toArray, List.getElem_cons_succ, List.getElem_cons_zero, List.setIfInBounds_toArray, List.set_cons_zero, List.set_cons_succ]
    refine wpAnyH_take (i := 2) (v := ?_) rfl (by kernel_rfl) (by kernel_rfl) (by kernel_rfl) (fun _ _ _ h => h) (Or.inl ⟨by rfl, ?_⟩) hHeld ?_
    rotate_left
    · intro w' hSw; try dsimp only at hSw
      go_simp; try (with_reducible rfl)
    try simp only [Act.put, List.getElem_toArray, List.getElem_cons_succ, List.getElem_cons_zero, List.setIfInBounds_toArray, List.set_cons_zero, List.set_cons_succ]
    refine wpAnyH_ready (rs := [1, 3]) (by kernel_rfl) (by simp) ?_
    refine AllReadyH.cons rfl (fun K hK => ?_) ?_
    · go_simp
      refine hK.out _ _ ⟨bt hHeld.1 (below_alloc _ _), nres hHeld.2 (below_alloc _ _)⟩ (fun hHeld => ?_)
      clear hK K
      try simp only [Act.put, List.getElem_toArray, List.getElem_cons_succ, List.getElem_cons_zero, List.setIfInBounds_toArray, List.set_cons_zero, List.set_cons_succ]
      have hb_ := below_alloc W0 (.cells (valsB (List.replicate n false)).toArray 4)
      have f1 := Blk.new W0 4 (valsB (List.replicate n false))
      obtain ⟨g1, hg_⟩ : ∃ g, g = W0.heap.size := ⟨_, rfl⟩
      rw [← hg_] at f1 ⊢
      have g1a : w.heap.size + 1 ≤ g1 := by rw [hg_]; exact hsz
      clear hg_
      replace hsz := Nat.le_trans hsz hb_.size
      clear hb_
      generalize W0.alloc (.cells (valsB (List.replicate n false)).toArray 4) = W0 at *
      refine wpAnyH_ready (rs := [3]) (by kernel_rfl) (by simp) ?_
      refine AllReadyH.cons rfl (fun K hK => ?_) AllReadyH.nil
      go_simp
      refine hK.out _ _ ⟨bt hHeld.1 (below_alloc _ _), nres hHeld.2 (below_alloc _ _)⟩ (fun hHeld => ?_)
      clear hK K
      try simp only [Act.put, List.getElem_toArray, List.getElem_cons_succ, List.getElem_cons_zero, List.setIfInBounds_toArray, List.set_cons_zero, List.set_cons_succ]
      have hb_ := below_alloc W0 (.cells (valsI (List.replicate n 0)).toArray 2)
      have f2 := Blk.new W0 2 (valsI (List.replicate n 0))
      obtain ⟨g2, hg_⟩ : ∃ g, g = W0.heap.size := ⟨_, rfl⟩
      rw [← hg_] at f2 ⊢
      have g2a : w.heap.size + 1 ≤ g2 := by rw [hg_]; exact hsz
      clear hg_
      replace f1 := f1.kept hb_
      replace hsz := Nat.le_trans hsz hb_.size
      clear hb_
      generalize W0.alloc (.cells (valsI (List.replicate n 0)).toArray 2) = W0 at *
      refine wpAnyH_take (i := 4) (v := ?_) rfl (by kernel_rfl) (by kernel_rfl) (by kernel_rfl) (fun _ _ _ h => h) (Or.inl ⟨by rfl, ?_⟩) hHeld ?_
      rotate_left
      · intro w' hSw; try dsimp only at hSw
        go_simp; try (with_reducible rfl)
      try simp only [Act.put, List.getElem_toArray, List.getElem_cons_succ, List.getElem_cons_zero, List.setIfInBounds_toArray, List.set_cons_zero, List.set_cons_succ]
      obtain ⟨cs, hcl, hres⟩ := hHeld.2
      refine wpAnyH_ready (rs := [5]) (by kernel_rfl) (by simp) ?_
      refine AllReadyH.cons rfl (fun K hK => ?_) AllReadyH.nil
      rw [if_pos (by rfl)]
      refine wp_store_blk 25 (.tmp 2) (.tmp 15) rfl w.heap.size 0 [.slice (some ⟨g1, 0, none⟩) n n, .slice (some ⟨g2, 0, none⟩) n n, .int .i64 0] rfl rfl hres (by rw [hcl]; exact Nat.le_refl _) (msSize ⟨some ⟨g1, 0, none⟩, n, n, some ⟨g2, 0, none⟩, n, n⟩ (newMS n)) (msOne ⟨some ⟨g1, 0, none⟩, n, n, some ⟨g2, 0, none⟩, n, n⟩ (newMS n)) ?_
      intro W9 h9 ht9
      rw [whole_row (by rw [hcl]; rfl)] at h9
      refine hK.out _ _ ⟨ht9.below hHeld.1 (Nat.le_refl _), ⟨_, rfl, h9⟩⟩ (fun hHeld => ?_)
      clear hK K
      try simp only [Act.put, List.getElem_toArray, List.getElem_cons_succ, List.getElem_cons_zero, List.setIfInBounds_toArray, List.set_cons_zero, List.set_cons_succ]
      refine wpAnyH_take (i := 6) (v := ?_) rfl (by kernel_rfl) (by kernel_rfl) (by kernel_rfl) (fun _ _ _ h => h) (Or.inl ⟨by rfl, ?_⟩) hHeld ?_
      rotate_left
      · intro w' hSw; try dsimp only at hSw
        go_simp; try (with_reducible rfl)
      try simp only [Act.put, List.getElem_toArray, List.getElem_cons_succ, List.getElem_cons_zero, List.setIfInBounds_toArray, List.set_cons_zero, List.set_cons_succ]
      refine wpAnyH_done (by kernel_rfl) ?_ _
      refine NoPanic.normal ?_
      go_wp2_with fail
      have h9' : Blk W9 w.heap.size 25 (SV.cells ⟨some ⟨g1, 0, none⟩, n, n, some ⟨g2, 0, none⟩, n, n⟩ (newMS n)) := h9
      refine ret_msE Try.results10 rfl h9' rfl rfl ?_
      rw [E.out]
      have e1 := f1.turned ht9 (by omega)
      have e2 := f2.turned ht9 (by omega)
      exact ⟨⟨some ⟨g1, 0, none⟩, n, n, some ⟨g2, 0, none⟩, n, n⟩, rfl, ⟨owns_of_blkB (by omega) (by simp [newMS]) (by show n ≤ maxLen; unfold maxLen; omega) e1, owns_of_blkI (by omega) (by simp [newMS]) (by show n ≤ maxLen; unfold maxLen; omega) e2, by show n ≤ _; omega, by show n ≤ _; omega⟩, hHeld.1⟩
    refine AllReadyH.cons rfl (fun K hK => ?_) AllReadyH.nil
    go_simp
    refine hK.out _ _ ⟨bt hHeld.1 (below_alloc _ _), nres hHeld.2 (below_alloc _ _)⟩ (fun hHeld => ?_)
    clear hK K
    try simp only [Act.put, List.getElem_toArray, List.getElem_cons_succ, List.getElem_cons_zero, List.setIfInBounds_toArray, List.set_cons_zero, List.set_cons_succ]
    have hb_ := below_alloc W0 (.cells (valsI (List.replicate n 0)).toArray 2)
    have f2 := Blk.new W0 2 (valsI (List.replicate n 0))
    obtain ⟨g2, hg_⟩ : ∃ g, g = W0.heap.size := ⟨_, rfl⟩
    rw [← hg_] at f2 ⊢
    have g2a : w.heap.size + 1 ≤ g2 := by rw [hg_]; exact hsz
    clear hg_
    replace hsz := Nat.le_trans hsz hb_.size
    clear hb_
    generalize W0.alloc (.cells (valsI (List.replicate n 0)).toArray 2) = W0 at *
    refine wpAnyH_ready (rs := [1]) (by kernel_rfl) (by simp) ?_
    refine AllReadyH.cons rfl (fun K hK => ?_) AllReadyH.nil
    go_simp
    refine hK.out _ _ ⟨bt hHeld.1 (below_alloc _ _), nres hHeld.2 (below_alloc _ _)⟩ (fun hHeld => ?_)
    clear hK K
    try simp only [Act.put, List.getElem_toArray, List.getElem_cons_succ, List.getElem_cons_zero, List.setIfInBounds_toArray, List.set_cons_zero, List.set_cons_succ]
    have hb_ := below_alloc W0 (.cells (valsB (List.replicate n false)).toArray 4)
    have f1 := Blk.new W0 4 (valsB (List.replicate n false))
    obtain ⟨g1, hg_⟩ : ∃ g, g = W0.heap.size := ⟨_, rfl⟩
    rw [← hg_] at f1 ⊢
    have g1a : w.heap.size + 1 ≤ g1 := by rw [hg_]; exact hsz
    clear hg_
    replace f2 := f2.kept hb_
    replace hsz := Nat.le_trans hsz hb_.size
    clear hb_
    generalize W0.alloc (.cells (valsB (List.replicate n false)).toArray 4) = W0 at *
    refine wpAnyH_take (i := 4) (v := ?_) rfl (by kernel_rfl) (by kernel_rfl) (by kernel_rfl) (fun _ _ _ h => h) (Or.inl ⟨by rfl, ?_⟩) hHeld ?_
    rotate_left
    · intro w' hSw; try dsimp only at hSw
      go_simp; try (with_reducible rfl)
    try simp only [Act.put, List.getElem_toArray, List.getElem_cons_succ, List.getElem_cons_zero, List.setIfInBounds_toArray, List.set_cons_zero, List.set_cons_succ]
    obtain ⟨cs, hcl, hres⟩ := hHeld.2
    refine wpAnyH_ready (rs := [5]) (by kernel_rfl) (by simp) ?_
    refine AllReadyH.cons rfl (fun K hK => ?_) AllReadyH.nil
    rw [if_pos (by rfl)]
    refine wp_store_blk 25 (.tmp 2) (.tmp 15) rfl w.heap.size 0 [.slice (some ⟨g1, 0, none⟩) n n, .slice (some ⟨g2, 0, none⟩) n n, .int .i64 0] rfl rfl hres (by rw [hcl]; exact Nat.le_refl _) (msSize ⟨some ⟨g1, 0, none⟩, n, n, some ⟨g2, 0, none⟩, n, n⟩ (newMS n)) (msOne ⟨some ⟨g1, 0, none⟩, n, n, some ⟨g2, 0, none⟩, n, n⟩ (newMS n)) ?_
    intro W9 h9 ht9
    rw [whole_row (by rw [hcl]; rfl)] at h9
    refine hK.out _ _ ⟨ht9.below hHeld.1 (Nat.le_refl _), ⟨_, rfl, h9⟩⟩ (fun hHeld => ?_)
    clear hK K
    try simp only [Act.put, List.getElem_toArray, List.getElem_cons_succ, List.getElem_cons_zero, List.setIfInBounds_toArray, List.set_cons_zero, List.set_cons_succ]
    refine wpAnyH_take (i := 6) (v := ?_) rfl (by kernel_rfl) (by kernel_rfl) (by kernel_rfl) (fun _ _ _ h => h) (Or.inl ⟨by rfl, ?_⟩) hHeld ?_
    rotate_left
    · intro w' hSw; try dsimp only at hSw
      go_simp; try (with_reducible rfl)
    try simp only [Act.put, List.getElem_toArray, List.getElem_cons_succ, List.getElem_cons_zero, List.setIfInBounds_toArray, List.set_cons_zero, List.set_cons_succ]
    refine wpAnyH_done (by kernel_rfl) ?_ _
    refine NoPanic.normal ?_
    go_wp2_with fail
    have h9' : Blk W9 w.heap.size 25 (SV.cells ⟨some ⟨g1, 0, none⟩, n, n, some ⟨g2, 0, none⟩, n, n⟩ (newMS n)) := h9
    refine ret_msE Try.results10 rfl h9' rfl rfl ?_
    rw [E.out]
    have e1 := f1.turned ht9 (by omega)
    have e2 := f2.turned ht9 (by omega)
    exact ⟨⟨some ⟨g1, 0, none⟩, n, n, some ⟨g2, 0, none⟩, n, n⟩, rfl, ⟨owns_of_blkB (by omega) (by simp [newMS]) (by show n ≤ maxLen; unfold maxLen; omega) e1, owns_of_blkI (by omega) (by simp [newMS]) (by show n ≤ maxLen; unfold maxLen; omega) e2, by show n ≤ _; omega, by show n ≤ _; omega⟩, hHeld.1⟩
  · have E : Hid (newR i = (MS.zero, 20)) := by show _ = _; unfold newR; rw [if_neg hn]
    by_cases h1 : i < 16
    · go_enter Try.func10, Try.ntmps10
      go_wp2_with (guard_target = wpList _ _ _ (Oper.mk _ (Op.store 25 (Operand.tmp 2) _) _ _ _ _ :: _) _ _; refine wpList_store_blk rfl 25 (.tmp 2) (.tmp 10) rfl _ _ [.slice none 0 0, .slice none 0 0, .int .i64 0] rfl rfl r0 (by simp) (msSize ⟨none, 0, 0, none, 0, 0⟩ MS.zero) (msOne ⟨none, 0, 0, none, 0, 0⟩ MS.zero) ?_; intro w9 h9 ht9)
      first
        | (refine ret_msE Try.results10 rfl (show Blk _ _ _ (SV.cells ⟨none, 0, 0, none, 0, 0⟩ MS.zero) from h9) rfl rfl ?_
           rw [E.out]
           exact ⟨_, rfl, ownS_zero _ _, ht9.below hb0 (by omega)⟩)
        | (refine ret_msE Try.results10 rfl (show Blk _ _ _ (SV.cells ⟨none, 0, 0, none, 0, 0⟩ MS.zero) from r0) rfl rfl ?_
           rw [E.out]
           exact ⟨_, rfl, ownS_zero _ _, hb0⟩)
    · have h2 : i > 256 := by omega
      go_enter Try.func10, Try.ntmps10
      go_wp2_with (guard_target = wpList _ _ _ (Oper.mk _ (Op.store 25 (Operand.tmp 2) _) _ _ _ _ :: _) _ _; refine wpList_store_blk rfl 25 (.tmp 2) (.tmp 10) rfl _ _ [.slice none 0 0, .slice none 0 0, .int .i64 0] rfl rfl r0 (by simp) (msSize ⟨none, 0, 0, none, 0, 0⟩ MS.zero) (msOne ⟨none, 0, 0, none, 0, 0⟩ MS.zero) ?_; intro w9 h9 ht9)
      first
        | (refine ret_msE Try.results10 rfl (show Blk _ _ _ (SV.cells ⟨none, 0, 0, none, 0, 0⟩ MS.zero) from h9) rfl rfl ?_
           rw [E.out]
           exact ⟨_, rfl, ownS_zero _ _, ht9.below hb0 (by omega)⟩)
        | (refine ret_msE Try.results10 rfl (show Blk _ _ _ (SV.cells ⟨none, 0, 0, none, 0, 0⟩ MS.zero) from r0) rfl rfl ?_
           rw [E.out]
           exact ⟨_, rfl, ownS_zero _ _, hb0⟩)
set_option maxHeartbeats 1000000 in
theorem rcheck_any (V : SV) (s : MS) (w : World) (hs : InS w V s) :
    Calls Try.prog 16 #[V.val s] w fun e w' => e = .returned (.int .i64 (chkE s)) ∧ Below w.heap.size w w' := by
  obtain ⟨p, n, c, q, m, d⟩ := V
  obtain ⟨hB, hW⟩ := hs
  dsimp only [SV.val] at *
  have HB : Hid (s.bad.length = n) := hB.len
  have HW : Hid (s.wear.length = m) := hW.len
  have hbl := below_alloc w (.cells #[.slice p n c, .slice q m d, .int .i64 s.seq] 25)
  have bx := Blk.new' w 25 #[.slice p n c, .slice q m d, .int .i64 s.seq]
  have hWb := hW.below hbl
  have NO : ¬ ((16 ≤ s.bad.length ∧ s.bad.length ≤ 256) ∧ s.wear.length = s.bad.length ∧ 0 ≤ s.seq ∧ s.seq ≤ 1152921504606846976) → chkE s = 60 := fun h => chkE_no (okMS_not (fun g => h ⟨g.1, g.2.1, g.2.2.2⟩))
  rw [HB.out, HW.out] at NO
  by_cases h1 : (n : Int) < 16
  · have E : Hid (chkE s = 60) := NO (by omega)
    clear NO
    go_enter Try.func16, Try.ntmps16
    go_wp2
    go_ret
    rw [E.out]
    exact ⟨rfl, hbl⟩
  · by_cases h2 : (n : Int) > 256
    · have E : Hid (chkE s = 60) := NO (by omega)
      clear NO
      go_enter Try.func16, Try.ntmps16
      go_wp2
      go_ret
      rw [E.out]
      exact ⟨rfl, hbl⟩
    · by_cases hnm : m = n
      · by_cases h3 : s.seq < 0
        · have E : Hid (chkE s = 60) := NO (by omega)
          have hne : ((m : Int) != (n : Int)) = false := by subst hnm; simp
          clear NO hnm
          go_enter Try.func16, Try.ntmps16
          go_wp2
          go_ret
          rw [E.out]
          exact ⟨rfl, hbl⟩
        · by_cases h4 : s.seq > 1152921504606846976
          · have E : Hid (chkE s = 60) := NO (by omega)
            have hne : ((m : Int) != (n : Int)) = false := by subst hnm; simp
            clear NO hnm
            go_enter Try.func16, Try.ntmps16
            go_wp2
            go_ret
            rw [E.out]
            exact ⟨rfl, hbl⟩
          · have h5 : (16 ≤ s.bad.length ∧ s.bad.length ≤ 256) ∧ s.wear.length = s.bad.length ∧ 0 ≤ s.seq ∧ s.seq ≤ 1152921504606846976 := by
              rw [HB.out, HW.out]; omega
            have YES : Hid (s.wear.all okWear = true → chkE s = 0) := fun h => chkE_ok (okMS_iff.2 ⟨h5.1, h5.2.1, h, h5.2.2⟩)
            have NOW : Hid (s.wear.all okWear = false → chkE s = 60) := fun h => chkE_no (okMS_not (fun g => by rw [g.2.2.1] at h; cases h))
            subst hnm
            clear NO h5
            obtain ⟨bq, oq, rfl, hbq', hcq⟩ := hWb.at' (by omega)
            obtain ⟨x0, x1, x2⟩ := bx.cellsR
            clear bx
            go_enter Try.func16, Try.ntmps16
            go_wp2
            go_loop [4] (fun i => ∃ k : Nat, k ≤ m ∧ i = .int .i64 k ∧ ∀ j, j < k → okWear (eI s.wear j) = true) (fun i => m - (intOf i).toNat)
            case atStart => exact ⟨0, Nat.zero_le _, rfl, fun j h => by omega⟩
            case round =>
              obtain ⟨k, hk, rfl, hall⟩ := hrel
              have HA : Hid (∀ j, j < k → okWear (eI s.wear j) = true) := hall
              clear hall
              by_cases hlt : k < m
              · have hck := hcq k hlt
                clear hcq
                cases hok : okWear (eI s.wear k) with
                | true =>
                  have ho := okWear_iff.1 hok
                  have HO : Hid (okWear (eI s.wear k) = true) := hok
                  clear hok
                  have g1 : ¬ eI s.wear k < 0 := by omega
                  have g2 : ¬ eI s.wear k > 16777215 := by omega
                  go_wp2
                  go_round
                  case rel =>
                    refine ⟨k + 1, by omega, by go_num, fun j hj => ?_⟩
                    rcases Nat.lt_succ_iff_lt_or_eq.1 hj with h | h
                    · exact HA.out j h
                    · rw [h]; exact HO.out
                  case measure => simp [intOf]; omega
                | false =>
                  have E : Hid (chkE s = 60) := NOW.out (all_of_not (by rw [HW.out]; exact hlt) hok)
                  have hnn := okWear_no hok
                  clear hok
                  rcases hnn with g1 | g2
                  · go_wp2
                    go_ret
                    rw [E.out]
                    exact ⟨rfl, hbl⟩
                  · have g1 : ¬ eI s.wear k < 0 := by omega
                    go_wp2
                    go_ret
                    rw [E.out]
                    exact ⟨rfl, hbl⟩
              · have E : Hid (chkE s = 0) := YES.out (eI_all.2 fun j hj => HA.out j (by have := HW.out; omega))
                clear hcq
                go_wp2
                go_ret
                rw [E.out]
                exact ⟨rfl, hbl⟩
      · have hne : ((m : Int) != (n : Int)) = true := by rw [bne_iff_ne]; omega
        have E : Hid (chkE s = 60) := NO (by omega)
        clear NO hnm
        go_enter Try.func16, Try.ntmps16
        go_wp2
        go_ret
        rw [E.out]
        exact ⟨rfl, hbl⟩
end Go.Proofs.Ytpikaagdiafieaa
