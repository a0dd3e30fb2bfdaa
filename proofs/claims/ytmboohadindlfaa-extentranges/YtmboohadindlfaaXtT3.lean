/-
  What At answers.
-/
import Derived.Test.YtmboohadindlfaaXtT2
namespace Go.Proofs.Ytmboohadindlfaa
open Go.RowKit
set_option linter.unusedSimpArgs false in
set_option linter.unusedVariables false in
set_option maxRecDepth 100000 in
set_option maxHeartbeats 4000000 in
theorem At_any (p : Option Addr) (n c : Nat) (l : List Ext) (x : Int) (w : World) (h : InE w p n c l) (hn : n ≤ 100000) :
    Calls Try.prog 10 #[.slice p n c, .int .i64 x] w fun e w' => e = .returned (atV (atR l x)) ∧ Below w.heap.size w w' := by
  go_enter Try.func10, Try.ntmps10
  by_cases hx0 : x < 0
  · have HR : Hid (atR l x = (0, 0, false)) := atR_out (.inl hx0)
    go_wp2
    go_ret3
    exact ⟨by rw [HR.out]; rfl, Below.refl _ _⟩
  by_cases hx1 : 65536 ≤ x
  · have HR : Hid (atR l x = (0, 0, false)) := atR_out (.inr hx1)
    go_wp2
    go_ret3
    exact ⟨by rw [HR.out]; rfl, Below.refl _ _⟩
  have HA : Hid (atR l x = atL (takenL l) x) := atR_in hx0 hx1
  go_wp2_with fail
  refine (taken_any p n c l w h).mono ?_
  rintro e9 w1 ⟨p1, n1, c1, rfl, hi, hn1, -, hb1⟩
  have HT1 : Hid (∀ e ∈ takenL l, oneB e = true) := taken_one l
  have HL : Hid ((takenL l).length = n1) := hi.len
  obtain ⟨t, ht⟩ : ∃ t, takenL l = t := ⟨_, rfl⟩
  rw [ht] at HT1 HL hi HA
  clear ht
  have hn2 : n1 ≤ 100000 := by omega
  go_wp2
  go_loopw [19] (fun i wr => ∃ (k : Nat), k ≤ n1 ∧ i = .int .i64 k ∧ atL t x = atL (t.drop k) x ∧ Below w1.heap.size w1 wr) (fun i _ => n1 - (intOf i).toNat)
  case atStart => exact ⟨0, Nat.zero_le _, rfl, rfl, Below.refl _ _⟩
  case round =>
    obtain ⟨k, hk, rfl, HD0, hb⟩ := hrel
    have HD : Hid (atL t x = atL (t.drop k) x) := HD0
    clear HD0
    by_cases hlt : k < n1
    · have hki : (k : Int) < (n1 : Int) := by omega
      obtain ⟨b, o, hpe, hbl, hc⟩ := (hi.below hb).at' (by omega)
      subst hpe
      have hks : k < t.length := by rw [HL.out]; exact hlt
      obtain ⟨e0, e1, e2⟩ := hc k hlt
      have HS : Hid (t.drop k = eE t k :: t.drop (k + 1)) := drop_eE hks
      have HO : Hid (oneB (eE t k) = true) := HT1.out _ (eE_mem hks)
      have heo := oneB_iff.1 HO.out
      clear hc hbl
      generalize eE t k = e at *
      have k0 := Blk.new' wr 31 #[.int .i64 e.lo, .int .i64 e.ln, .int .i64 e.ph]
      have HC : Hid (atL t x = if x < e.lo then (0, e.lo - x, false) else if x < e.lo + e.ln then (e.ph + (x - e.lo), e.ln - (x - e.lo), true) else atL (t.drop (k + 1)) x) := by show _ = _; rw [HD.out, HS.out]; rfl
      by_cases hxl : x < e.lo
      · have HR : Hid (atR l x = (0, e.lo - x, false)) := by show _ = _; rw [HA.out, HC.out, if_pos hxl]
        have hws : IntKind.i64.wrap (e.lo - x) = e.lo - x := by rw [IntKind.wrap_i64]; omega
        clear heo
        go_upto_region 7 with fail
        refine wp_region_noPanic ?_
        refine wp_region_held_drew (S := fun X => Blk X wr.heap.size 31 [.int .i64 e.lo, .int .i64 e.ln, .int .i64 e.ph]) (by kernel_rfl) k0.drew (fun hHeld => ?_)
        refine wpAnyH_take (i := 0) (v := ?_) rfl (by kernel_rfl) (by kernel_rfl) (by kernel_rfl) (fun _ _ _ h => h) (Or.inl ⟨by rfl, ?_⟩) hHeld ?_
        rotate_left
        · intro w' hSw; try dsimp only at hSw
          have c0 := hSw.cell' (i := 0) rfl
          have c1 := hSw.cell' (i := 1) rfl
          have c2 := hSw.cell' (i := 2) rfl
          go_simp; try (with_reducible rfl)
        try simp only [Act.put, List.getElem_toArray, List.getElem_cons_succ, List.getElem_cons_zero, List.setIfInBounds_toArray, List.set_cons_zero, List.set_cons_succ]
        refine wpAnyH_take (i := 1) (v := ?_) rfl (by kernel_rfl) (by kernel_rfl) (by kernel_rfl) (fun _ _ _ h => h) (Or.inl ⟨by rfl, ?_⟩) hHeld ?_
        rotate_left
        · intro w' hSw; try dsimp only at hSw
          have c0 := hSw.cell' (i := 0) rfl
          have c1 := hSw.cell' (i := 1) rfl
          have c2 := hSw.cell' (i := 2) rfl
          go_simp; try (with_reducible rfl)
        try simp only [Act.put, List.getElem_toArray, List.getElem_cons_succ, List.getElem_cons_zero, List.setIfInBounds_toArray, List.set_cons_zero, List.set_cons_succ]
        refine wpAnyH_take (i := 2) (v := ?_) rfl (by kernel_rfl) (by kernel_rfl) (by kernel_rfl) (fun _ _ _ h => h) (Or.inl ⟨by rfl, ?_⟩) hHeld ?_
        rotate_left
        · intro w' hSw; try dsimp only at hSw
          have c0 := hSw.cell' (i := 0) rfl
          have c1 := hSw.cell' (i := 1) rfl
          have c2 := hSw.cell' (i := 2) rfl
          go_simp; try (with_reducible rfl)
        try simp only [Act.put, List.getElem_toArray, List.getElem_cons_succ, List.getElem_cons_zero, List.setIfInBounds_toArray, List.set_cons_zero, List.set_cons_succ]
        refine wpAnyH_take (i := 3) (v := ?_) rfl (by kernel_rfl) (by kernel_rfl) (by kernel_rfl) (fun _ _ _ h => h) (Or.inl ⟨by rfl, ?_⟩) hHeld ?_
        rotate_left
        · intro w' hSw; try dsimp only at hSw
          have c0 := hSw.cell' (i := 0) rfl
          have c1 := hSw.cell' (i := 1) rfl
          have c2 := hSw.cell' (i := 2) rfl
          go_simp; try (with_reducible rfl)
        try simp only [Act.put, List.getElem_toArray, List.getElem_cons_succ, List.getElem_cons_zero, List.setIfInBounds_toArray, List.set_cons_zero, List.set_cons_succ]
        refine wpAnyH_take (i := 4) (v := ?_) rfl (by kernel_rfl) (by kernel_rfl) (by kernel_rfl) (fun _ _ _ h => h) (Or.inl ⟨by rfl, ?_⟩) hHeld ?_
        rotate_left
        · intro w' hSw; try dsimp only at hSw
          have c0 := hSw.cell' (i := 0) rfl
          have c1 := hSw.cell' (i := 1) rfl
          have c2 := hSw.cell' (i := 2) rfl
          go_simp; try (with_reducible rfl)
        try simp only [Act.put, List.getElem_toArray, List.getElem_cons_succ, List.getElem_cons_zero, List.setIfInBounds_toArray, List.set_cons_zero, List.set_cons_succ]
        refine wpAnyH_take (i := 5) (v := ?_) rfl (by kernel_rfl) (by kernel_rfl) (by kernel_rfl) (fun _ _ _ h => h) (Or.inl ⟨by rfl, ?_⟩) hHeld ?_
        rotate_left
        · intro w' hSw; try dsimp only at hSw
          have c0 := hSw.cell' (i := 0) rfl
          have c1 := hSw.cell' (i := 1) rfl
          have c2 := hSw.cell' (i := 2) rfl
          go_simp; try (with_reducible rfl)
        try simp only [Act.put, List.getElem_toArray, List.getElem_cons_succ, List.getElem_cons_zero, List.setIfInBounds_toArray, List.set_cons_zero, List.set_cons_succ]
        refine wpAnyH_take (i := 6) (v := ?_) rfl (by kernel_rfl) (by kernel_rfl) (by kernel_rfl) (fun _ _ _ h => h) (Or.inl ⟨by rfl, ?_⟩) hHeld ?_
        rotate_left
        · intro w' hSw; try dsimp only at hSw
          have c0 := hSw.cell' (i := 0) rfl
          have c1 := hSw.cell' (i := 1) rfl
          have c2 := hSw.cell' (i := 2) rfl
          go_simp; try (with_reducible rfl)
        try simp only [Act.put, List.getElem_toArray, List.getElem_cons_succ, List.getElem_cons_zero, List.setIfInBounds_toArray, List.set_cons_zero, List.set_cons_succ]
        refine wpAnyH_done (by kernel_rfl) ?_ _
        refine NoPanic.normal ?_
        clear hHeld
        go_wp2
        go_ret3
        exact ⟨by rw [HR.out]; rfl, hb1.trans ((hb.trans ((below_alloc wr _).drew.mono hb.size)).mono hb1.size)⟩
      · by_cases hxn : x < endI e
        · have hxn2 : x < e.lo + e.ln := hxn
          have HR : Hid (atR l x = (e.ph + x - e.lo, e.lo + e.ln - x, true)) := by
            show _ = _
            rw [HA.out, HC.out, if_neg hxl, if_pos hxn2, show e.ph + (x - e.lo) = e.ph + x - e.lo by omega, show e.ln - (x - e.lo) = e.lo + e.ln - x by omega]
          have hwi : ∀ W : World, Calls Try.prog 38 #[e.val, .int .i64 x, .int .i64 (endI e)] W fun y w' => y = .returned (.agg #[.int .i64 x, .int .i64 (e.lo + e.ln - x), .int .i64 (e.ph + x - e.lo)]) ∧ Below W.heap.size W w' := fun W => by
            have := within_any e x (endI e) W HO.out
            rw [partE_yes (partB_iff.2 (by unfold endI; omega)), show max e.lo x = x by omega, show min (e.lo + e.ln) (endI e) = e.lo + e.ln by unfold endI; omega] at this
            exact this
          clear heo hxn2
          go_wp2_with fail
          refine (end_any e _ HO.out).mono ?_
          rintro e9 w2 ⟨rfl, rfl⟩
          have k1 := k0.alloc (.cells #[.int .i64 e.lo, .int .i64 e.ln, .int .i64 e.ph] 31)
          have hbW := (below_al (below_alloc wr (.cells #[.int .i64 e.lo, .int .i64 e.ln, .int .i64 e.ph] 31)) (.cells #[.int .i64 e.lo, .int .i64 e.ln, .int .i64 e.ph] 31)).drew
          go_upto_region 9 with fail
          refine wp_region_noPanic ?_
          refine wp_region_held_drew (S := fun X => Blk X wr.heap.size 31 [.int .i64 e.lo, .int .i64 e.ln, .int .i64 e.ph]) (by kernel_rfl) k1.drew (fun hHeld => ?_)
          clear k0 k1
          generalize World.drew _ = W at *
          have hlt0 := hHeld.lt
          refine wpAnyH_take (i := 0) (v := ?_) rfl (by kernel_rfl) (by kernel_rfl) (by kernel_rfl) (fun _ _ _ h => h) (Or.inl ⟨by rfl, ?_⟩) hHeld ?_
          rotate_left
          · intro w' hSw; try dsimp only at hSw
            have c0 := hSw.cell' (i := 0) rfl
            have c1 := hSw.cell' (i := 1) rfl
            have c2 := hSw.cell' (i := 2) rfl
            go_simp; try (with_reducible rfl)
          try simp only [Act.put, List.getElem_toArray, List.getElem_cons_succ, List.getElem_cons_zero, List.setIfInBounds_toArray, List.set_cons_zero, List.set_cons_succ]
          refine wpAnyH_take (i := 1) (v := ?_) rfl (by kernel_rfl) (by kernel_rfl) (by kernel_rfl) (fun _ _ _ h => h) (Or.inl ⟨by rfl, ?_⟩) hHeld ?_
          rotate_left
          · intro w' hSw; try dsimp only at hSw
            have c0 := hSw.cell' (i := 0) rfl
            have c1 := hSw.cell' (i := 1) rfl
            have c2 := hSw.cell' (i := 2) rfl
            go_simp; try (with_reducible rfl)
          try simp only [Act.put, List.getElem_toArray, List.getElem_cons_succ, List.getElem_cons_zero, List.setIfInBounds_toArray, List.set_cons_zero, List.set_cons_succ]
          refine wpAnyH_take (i := 2) (v := ?_) rfl (by kernel_rfl) (by kernel_rfl) (by kernel_rfl) (fun _ _ _ h => h) (Or.inl ⟨by rfl, ?_⟩) hHeld ?_
          rotate_left
          · intro w' hSw; try dsimp only at hSw
            have c0 := hSw.cell' (i := 0) rfl
            have c1 := hSw.cell' (i := 1) rfl
            have c2 := hSw.cell' (i := 2) rfl
            go_simp; try (with_reducible rfl)
          try simp only [Act.put, List.getElem_toArray, List.getElem_cons_succ, List.getElem_cons_zero, List.setIfInBounds_toArray, List.set_cons_zero, List.set_cons_succ]
          refine wpAnyH_ready (rs := [3, 5]) (by kernel_rfl) (by simp) ?_
          refine AllReadyH.cons rfl (fun K hK => ?_) ?_
          · go_simp
            refine (end_any e _ HO.out).mono ?_
            rintro e9 w2 ⟨rfl, rfl⟩
            refine hK.out _ _ (hHeld.alloc _) (fun hHeld => ?_)
            clear hK K
            try simp only [Act.put, List.getElem_toArray, List.getElem_cons_succ, List.getElem_cons_zero, List.setIfInBounds_toArray, List.set_cons_zero, List.set_cons_succ]
            refine wpAnyH_ready (rs := [4, 5]) (by kernel_rfl) (by simp) ?_
            refine AllReadyH.cons rfl (fun K hK => ?_) ?_
            · go_simp
              refine (hwi _).mono ?_
              rintro e9 w3 ⟨rfl, hb3⟩
              refine hK.out _ _ (hHeld.kept hb3) (fun hHeld => ?_)
              clear hK K
              try simp only [Act.put, List.getElem_toArray, List.getElem_cons_succ, List.getElem_cons_zero, List.setIfInBounds_toArray, List.set_cons_zero, List.set_cons_succ]
              refine wpAnyH_ready (rs := [5]) (by kernel_rfl) (by simp) ?_
              refine AllReadyH.cons rfl (fun K hK => ?_) AllReadyH.nil
              go_simp
              refine hK.out _ _ (hHeld.alloc _) (fun hHeld => ?_)
              clear hK K
              try simp only [Act.put, List.getElem_toArray, List.getElem_cons_succ, List.getElem_cons_zero, List.setIfInBounds_toArray, List.set_cons_zero, List.set_cons_succ]
              refine wpAnyH_ready (rs := [6]) (by kernel_rfl) (by simp) ?_
              refine AllReadyH.cons rfl (fun K hK => ?_) AllReadyH.nil
              rw [if_pos (by rfl)]
              refine wp_store_blk 31 (.tmp 9) (.tmp 39) rfl _ 0 [.int .i64 x, .int .i64 (e.lo + e.ln - x), .int .i64 (e.ph + x - e.lo)] rfl rfl (Blk.new' w3 31 #[.int .i64 0, .int .i64 0, .int .i64 0]) (by simp) (by kernel_rfl) (by simp [Value.oneCell']) ?_
              intro w9 h9 ht9
              replace h9 : Blk w9 _ 31 [.int .i64 x, .int .i64 (e.lo + e.ln - x), .int .i64 (e.ph + x - e.lo)] := h9
              have q1 := hHeld.turned ht9 (by have := hb3.size; simp only [World.size_alloc] at *; omega)
              have hb9 : Below wr.heap.size wr w9 := ht9.below (below_al (bt (below_al hbW _) hb3) _) (by have := hb3.size; simp only [World.size_alloc] at *; omega)
              refine hK.out _ _ q1 (fun hHeld => ?_)
              clear hK K
              try simp only [Act.put, List.getElem_toArray, List.getElem_cons_succ, List.getElem_cons_zero, List.setIfInBounds_toArray, List.set_cons_zero, List.set_cons_succ]
              refine wpAnyH_done (by kernel_rfl) ?_ _
              refine NoPanic.normal ?_
              clear hHeld q1 hb3 ht9
              go_upto_region 10 with fail
              refine wp_region_noPanic ?_
              refine wp_region_held_drew (S := fun X => Blk X _ 31 [.int .i64 x, .int .i64 (e.lo + e.ln - x), .int .i64 (e.ph + x - e.lo)]) (by kernel_rfl) h9.drew (fun hHeld => ?_)
              refine wpAnyH_take (i := 0) (v := ?_) rfl (by kernel_rfl) (by kernel_rfl) (by kernel_rfl) (fun _ _ _ h => h) (Or.inl ⟨by rfl, ?_⟩) hHeld ?_
              rotate_left
              · intro w' hSw; try dsimp only at hSw
                have c0 := hSw.cell' (i := 0) rfl
                have c1 := hSw.cell' (i := 1) rfl
                have c2 := hSw.cell' (i := 2) rfl
                go_simp; try (with_reducible rfl)
              try simp only [Act.put, List.getElem_toArray, List.getElem_cons_succ, List.getElem_cons_zero, List.setIfInBounds_toArray, List.set_cons_zero, List.set_cons_succ]
              refine wpAnyH_take (i := 1) (v := ?_) rfl (by kernel_rfl) (by kernel_rfl) (by kernel_rfl) (fun _ _ _ h => h) (Or.inl ⟨by rfl, ?_⟩) hHeld ?_
              rotate_left
              · intro w' hSw; try dsimp only at hSw
                have c0 := hSw.cell' (i := 0) rfl
                have c1 := hSw.cell' (i := 1) rfl
                have c2 := hSw.cell' (i := 2) rfl
                go_simp; try (with_reducible rfl)
              try simp only [Act.put, List.getElem_toArray, List.getElem_cons_succ, List.getElem_cons_zero, List.setIfInBounds_toArray, List.set_cons_zero, List.set_cons_succ]
              refine wpAnyH_take (i := 2) (v := ?_) rfl (by kernel_rfl) (by kernel_rfl) (by kernel_rfl) (fun _ _ _ h => h) (Or.inl ⟨by rfl, ?_⟩) hHeld ?_
              rotate_left
              · intro w' hSw; try dsimp only at hSw
                have c0 := hSw.cell' (i := 0) rfl
                have c1 := hSw.cell' (i := 1) rfl
                have c2 := hSw.cell' (i := 2) rfl
                go_simp; try (with_reducible rfl)
              try simp only [Act.put, List.getElem_toArray, List.getElem_cons_succ, List.getElem_cons_zero, List.setIfInBounds_toArray, List.set_cons_zero, List.set_cons_succ]
              refine wpAnyH_take (i := 3) (v := ?_) rfl (by kernel_rfl) (by kernel_rfl) (by kernel_rfl) (fun _ _ _ h => h) (Or.inl ⟨by rfl, ?_⟩) hHeld ?_
              rotate_left
              · intro w' hSw; try dsimp only at hSw
                have c0 := hSw.cell' (i := 0) rfl
                have c1 := hSw.cell' (i := 1) rfl
                have c2 := hSw.cell' (i := 2) rfl
                go_simp; try (with_reducible rfl)
              try simp only [Act.put, List.getElem_toArray, List.getElem_cons_succ, List.getElem_cons_zero, List.setIfInBounds_toArray, List.set_cons_zero, List.set_cons_succ]
              refine wpAnyH_take (i := 4) (v := ?_) rfl (by kernel_rfl) (by kernel_rfl) (by kernel_rfl) (fun _ _ _ h => h) (Or.inl ⟨by rfl, ?_⟩) hHeld ?_
              rotate_left
              · intro w' hSw; try dsimp only at hSw
                have c0 := hSw.cell' (i := 0) rfl
                have c1 := hSw.cell' (i := 1) rfl
                have c2 := hSw.cell' (i := 2) rfl
                go_simp; try (with_reducible rfl)
              try simp only [Act.put, List.getElem_toArray, List.getElem_cons_succ, List.getElem_cons_zero, List.setIfInBounds_toArray, List.set_cons_zero, List.set_cons_succ]
              refine wpAnyH_take (i := 5) (v := ?_) rfl (by kernel_rfl) (by kernel_rfl) (by kernel_rfl) (fun _ _ _ h => h) (Or.inl ⟨by rfl, ?_⟩) hHeld ?_
              rotate_left
              · intro w' hSw; try dsimp only at hSw
                have c0 := hSw.cell' (i := 0) rfl
                have c1 := hSw.cell' (i := 1) rfl
                have c2 := hSw.cell' (i := 2) rfl
                go_simp; try (with_reducible rfl)
              try simp only [Act.put, List.getElem_toArray, List.getElem_cons_succ, List.getElem_cons_zero, List.setIfInBounds_toArray, List.set_cons_zero, List.set_cons_succ]
              refine wpAnyH_take (i := 6) (v := ?_) rfl (by kernel_rfl) (by kernel_rfl) (by kernel_rfl) (fun _ _ _ h => h) (Or.inl ⟨by rfl, ?_⟩) hHeld ?_
              rotate_left
              · intro w' hSw; try dsimp only at hSw
                have c0 := hSw.cell' (i := 0) rfl
                have c1 := hSw.cell' (i := 1) rfl
                have c2 := hSw.cell' (i := 2) rfl
                go_simp; try (with_reducible rfl)
              try simp only [Act.put, List.getElem_toArray, List.getElem_cons_succ, List.getElem_cons_zero, List.setIfInBounds_toArray, List.set_cons_zero, List.set_cons_succ]
              refine wpAnyH_done (by kernel_rfl) ?_ _
              refine NoPanic.normal ?_
              clear hHeld
              go_wp2
              go_ret3
              exact ⟨by rw [HR.out]; rfl, hb1.trans ((hb.trans (hb9.drew.mono hb.size)).mono hb1.size)⟩
            refine AllReadyH.cons rfl (fun K hK => ?_) AllReadyH.nil
            go_simp
            refine hK.out _ _ (hHeld.alloc _) (fun hHeld => ?_)
            clear hK K
            try simp only [Act.put, List.getElem_toArray, List.getElem_cons_succ, List.getElem_cons_zero, List.setIfInBounds_toArray, List.set_cons_zero, List.set_cons_succ]
            refine wpAnyH_ready (rs := [4]) (by kernel_rfl) (by simp) ?_
            refine AllReadyH.cons rfl (fun K hK => ?_) AllReadyH.nil
            go_simp
            refine (hwi _).mono ?_
            rintro e9 w3 ⟨rfl, hb3⟩
            refine hK.out _ _ (hHeld.kept hb3) (fun hHeld => ?_)
            clear hK K
            try simp only [Act.put, List.getElem_toArray, List.getElem_cons_succ, List.getElem_cons_zero, List.setIfInBounds_toArray, List.set_cons_zero, List.set_cons_succ]
            refine wpAnyH_ready (rs := [6]) (by kernel_rfl) (by simp) ?_
            refine AllReadyH.cons rfl (fun K hK => ?_) AllReadyH.nil
            rw [if_pos (by rfl)]
            refine wp_store_blk 31 (.tmp 9) (.tmp 39) rfl _ 0 [.int .i64 x, .int .i64 (e.lo + e.ln - x), .int .i64 (e.ph + x - e.lo)] rfl rfl ((Blk.newAt 31 #[.int .i64 0, .int .i64 0, .int .i64 0] (by simp)).kept hb3) (by simp) (by kernel_rfl) (by simp [Value.oneCell']) ?_
            intro w9 h9 ht9
            replace h9 : Blk w9 _ 31 [.int .i64 x, .int .i64 (e.lo + e.ln - x), .int .i64 (e.ph + x - e.lo)] := h9
            have q1 := hHeld.turned ht9 (by have := hb3.size; simp only [World.size_alloc] at *; omega)
            have hb9 : Below wr.heap.size wr w9 := ht9.below (bt (below_al (below_al hbW _) _) hb3) (by have := hb3.size; simp only [World.size_alloc] at *; omega)
            refine hK.out _ _ q1 (fun hHeld => ?_)
            clear hK K
            try simp only [Act.put, List.getElem_toArray, List.getElem_cons_succ, List.getElem_cons_zero, List.setIfInBounds_toArray, List.set_cons_zero, List.set_cons_succ]
            refine wpAnyH_done (by kernel_rfl) ?_ _
            refine NoPanic.normal ?_
            clear hHeld q1 hb3 ht9
            go_upto_region 10 with fail
            refine wp_region_noPanic ?_
            refine wp_region_held_drew (S := fun X => Blk X _ 31 [.int .i64 x, .int .i64 (e.lo + e.ln - x), .int .i64 (e.ph + x - e.lo)]) (by kernel_rfl) h9.drew (fun hHeld => ?_)
            refine wpAnyH_take (i := 0) (v := ?_) rfl (by kernel_rfl) (by kernel_rfl) (by kernel_rfl) (fun _ _ _ h => h) (Or.inl ⟨by rfl, ?_⟩) hHeld ?_
            rotate_left
            · intro w' hSw; try dsimp only at hSw
              have c0 := hSw.cell' (i := 0) rfl
              have c1 := hSw.cell' (i := 1) rfl
              have c2 := hSw.cell' (i := 2) rfl
              go_simp; try (with_reducible rfl)
            try simp only [Act.put, List.getElem_toArray, List.getElem_cons_succ, List.getElem_cons_zero, List.setIfInBounds_toArray, List.set_cons_zero, List.set_cons_succ]
            refine wpAnyH_take (i := 1) (v := ?_) rfl (by kernel_rfl) (by kernel_rfl) (by kernel_rfl) (fun _ _ _ h => h) (Or.inl ⟨by rfl, ?_⟩) hHeld ?_
            rotate_left
            · intro w' hSw; try dsimp only at hSw
              have c0 := hSw.cell' (i := 0) rfl
              have c1 := hSw.cell' (i := 1) rfl
              have c2 := hSw.cell' (i := 2) rfl
              go_simp; try (with_reducible rfl)
            try simp only [Act.put, List.getElem_toArray, List.getElem_cons_succ, List.getElem_cons_zero, List.setIfInBounds_toArray, List.set_cons_zero, List.set_cons_succ]
            refine wpAnyH_take (i := 2) (v := ?_) rfl (by kernel_rfl) (by kernel_rfl) (by kernel_rfl) (fun _ _ _ h => h) (Or.inl ⟨by rfl, ?_⟩) hHeld ?_
            rotate_left
            · intro w' hSw; try dsimp only at hSw
              have c0 := hSw.cell' (i := 0) rfl
              have c1 := hSw.cell' (i := 1) rfl
              have c2 := hSw.cell' (i := 2) rfl
              go_simp; try (with_reducible rfl)
            try simp only [Act.put, List.getElem_toArray, List.getElem_cons_succ, List.getElem_cons_zero, List.setIfInBounds_toArray, List.set_cons_zero, List.set_cons_succ]
            refine wpAnyH_take (i := 3) (v := ?_) rfl (by kernel_rfl) (by kernel_rfl) (by kernel_rfl) (fun _ _ _ h => h) (Or.inl ⟨by rfl, ?_⟩) hHeld ?_
            rotate_left
            · intro w' hSw; try dsimp only at hSw
              have c0 := hSw.cell' (i := 0) rfl
              have c1 := hSw.cell' (i := 1) rfl
              have c2 := hSw.cell' (i := 2) rfl
              go_simp; try (with_reducible rfl)
            try simp only [Act.put, List.getElem_toArray, List.getElem_cons_succ, List.getElem_cons_zero, List.setIfInBounds_toArray, List.set_cons_zero, List.set_cons_succ]
            refine wpAnyH_take (i := 4) (v := ?_) rfl (by kernel_rfl) (by kernel_rfl) (by kernel_rfl) (fun _ _ _ h => h) (Or.inl ⟨by rfl, ?_⟩) hHeld ?_
            rotate_left
            · intro w' hSw; try dsimp only at hSw
              have c0 := hSw.cell' (i := 0) rfl
              have c1 := hSw.cell' (i := 1) rfl
              have c2 := hSw.cell' (i := 2) rfl
              go_simp; try (with_reducible rfl)
            try simp only [Act.put, List.getElem_toArray, List.getElem_cons_succ, List.getElem_cons_zero, List.setIfInBounds_toArray, List.set_cons_zero, List.set_cons_succ]
            refine wpAnyH_take (i := 5) (v := ?_) rfl (by kernel_rfl) (by kernel_rfl) (by kernel_rfl) (fun _ _ _ h => h) (Or.inl ⟨by rfl, ?_⟩) hHeld ?_
            rotate_left
            · intro w' hSw; try dsimp only at hSw
              have c0 := hSw.cell' (i := 0) rfl
              have c1 := hSw.cell' (i := 1) rfl
              have c2 := hSw.cell' (i := 2) rfl
              go_simp; try (with_reducible rfl)
            try simp only [Act.put, List.getElem_toArray, List.getElem_cons_succ, List.getElem_cons_zero, List.setIfInBounds_toArray, List.set_cons_zero, List.set_cons_succ]
            refine wpAnyH_take (i := 6) (v := ?_) rfl (by kernel_rfl) (by kernel_rfl) (by kernel_rfl) (fun _ _ _ h => h) (Or.inl ⟨by rfl, ?_⟩) hHeld ?_
            rotate_left
            · intro w' hSw; try dsimp only at hSw
              have c0 := hSw.cell' (i := 0) rfl
              have c1 := hSw.cell' (i := 1) rfl
              have c2 := hSw.cell' (i := 2) rfl
              go_simp; try (with_reducible rfl)
            try simp only [Act.put, List.getElem_toArray, List.getElem_cons_succ, List.getElem_cons_zero, List.setIfInBounds_toArray, List.set_cons_zero, List.set_cons_succ]
            refine wpAnyH_done (by kernel_rfl) ?_ _
            refine NoPanic.normal ?_
            clear hHeld
            go_wp2
            go_ret3
            exact ⟨by rw [HR.out]; rfl, hb1.trans ((hb.trans (hb9.drew.mono hb.size)).mono hb1.size)⟩
          refine AllReadyH.cons rfl (fun K hK => ?_) AllReadyH.nil
          go_simp
          refine hK.out _ _ (hHeld.alloc _) (fun hHeld => ?_)
          clear hK K
          try simp only [Act.put, List.getElem_toArray, List.getElem_cons_succ, List.getElem_cons_zero, List.setIfInBounds_toArray, List.set_cons_zero, List.set_cons_succ]
          refine wpAnyH_ready (rs := [3]) (by kernel_rfl) (by simp) ?_
          refine AllReadyH.cons rfl (fun K hK => ?_) AllReadyH.nil
          go_simp
          refine (end_any e _ HO.out).mono ?_
          rintro e9 w2 ⟨rfl, rfl⟩
          refine hK.out _ _ (hHeld.alloc _) (fun hHeld => ?_)
          clear hK K
          try simp only [Act.put, List.getElem_toArray, List.getElem_cons_succ, List.getElem_cons_zero, List.setIfInBounds_toArray, List.set_cons_zero, List.set_cons_succ]
          refine wpAnyH_ready (rs := [4]) (by kernel_rfl) (by simp) ?_
          refine AllReadyH.cons rfl (fun K hK => ?_) AllReadyH.nil
          go_simp
          refine (hwi _).mono ?_
          rintro e9 w3 ⟨rfl, hb3⟩
          refine hK.out _ _ (hHeld.kept hb3) (fun hHeld => ?_)
          clear hK K
          try simp only [Act.put, List.getElem_toArray, List.getElem_cons_succ, List.getElem_cons_zero, List.setIfInBounds_toArray, List.set_cons_zero, List.set_cons_succ]
          refine wpAnyH_ready (rs := [6]) (by kernel_rfl) (by simp) ?_
          refine AllReadyH.cons rfl (fun K hK => ?_) AllReadyH.nil
          rw [if_pos (by rfl)]
          refine wp_store_blk 31 (.tmp 9) (.tmp 39) rfl _ 0 [.int .i64 x, .int .i64 (e.lo + e.ln - x), .int .i64 (e.ph + x - e.lo)] rfl rfl (((Blk.new' _ 31 #[.int .i64 0, .int .i64 0, .int .i64 0]).alloc _).kept hb3) (by simp) (by kernel_rfl) (by simp [Value.oneCell']) ?_
          intro w9 h9 ht9
          replace h9 : Blk w9 _ 31 [.int .i64 x, .int .i64 (e.lo + e.ln - x), .int .i64 (e.ph + x - e.lo)] := h9
          have q1 := hHeld.turned ht9 (by have := hb3.size; simp only [World.size_alloc] at *; omega)
          have hb9 : Below wr.heap.size wr w9 := ht9.below (bt (below_al (below_al hbW _) _) hb3) (by have := hb3.size; simp only [World.size_alloc] at *; omega)
          refine hK.out _ _ q1 (fun hHeld => ?_)
          clear hK K
          try simp only [Act.put, List.getElem_toArray, List.getElem_cons_succ, List.getElem_cons_zero, List.setIfInBounds_toArray, List.set_cons_zero, List.set_cons_succ]
          refine wpAnyH_done (by kernel_rfl) ?_ _
          refine NoPanic.normal ?_
          clear hHeld q1 hb3 ht9
          go_upto_region 10 with fail
          refine wp_region_noPanic ?_
          refine wp_region_held_drew (S := fun X => Blk X _ 31 [.int .i64 x, .int .i64 (e.lo + e.ln - x), .int .i64 (e.ph + x - e.lo)]) (by kernel_rfl) h9.drew (fun hHeld => ?_)
          refine wpAnyH_take (i := 0) (v := ?_) rfl (by kernel_rfl) (by kernel_rfl) (by kernel_rfl) (fun _ _ _ h => h) (Or.inl ⟨by rfl, ?_⟩) hHeld ?_
          rotate_left
          · intro w' hSw; try dsimp only at hSw
            have c0 := hSw.cell' (i := 0) rfl
            have c1 := hSw.cell' (i := 1) rfl
            have c2 := hSw.cell' (i := 2) rfl
            go_simp; try (with_reducible rfl)
          try simp only [Act.put, List.getElem_toArray, List.getElem_cons_succ, List.getElem_cons_zero, List.setIfInBounds_toArray, List.set_cons_zero, List.set_cons_succ]
          refine wpAnyH_take (i := 1) (v := ?_) rfl (by kernel_rfl) (by kernel_rfl) (by kernel_rfl) (fun _ _ _ h => h) (Or.inl ⟨by rfl, ?_⟩) hHeld ?_
          rotate_left
          · intro w' hSw; try dsimp only at hSw
            have c0 := hSw.cell' (i := 0) rfl
            have c1 := hSw.cell' (i := 1) rfl
            have c2 := hSw.cell' (i := 2) rfl
            go_simp; try (with_reducible rfl)
          try simp only [Act.put, List.getElem_toArray, List.getElem_cons_succ, List.getElem_cons_zero, List.setIfInBounds_toArray, List.set_cons_zero, List.set_cons_succ]
          refine wpAnyH_take (i := 2) (v := ?_) rfl (by kernel_rfl) (by kernel_rfl) (by kernel_rfl) (fun _ _ _ h => h) (Or.inl ⟨by rfl, ?_⟩) hHeld ?_
          rotate_left
          · intro w' hSw; try dsimp only at hSw
            have c0 := hSw.cell' (i := 0) rfl
            have c1 := hSw.cell' (i := 1) rfl
            have c2 := hSw.cell' (i := 2) rfl
            go_simp; try (with_reducible rfl)
          try simp only [Act.put, List.getElem_toArray, List.getElem_cons_succ, List.getElem_cons_zero, List.setIfInBounds_toArray, List.set_cons_zero, List.set_cons_succ]
          refine wpAnyH_take (i := 3) (v := ?_) rfl (by kernel_rfl) (by kernel_rfl) (by kernel_rfl) (fun _ _ _ h => h) (Or.inl ⟨by rfl, ?_⟩) hHeld ?_
          rotate_left
          · intro w' hSw; try dsimp only at hSw
            have c0 := hSw.cell' (i := 0) rfl
            have c1 := hSw.cell' (i := 1) rfl
            have c2 := hSw.cell' (i := 2) rfl
            go_simp; try (with_reducible rfl)
          try simp only [Act.put, List.getElem_toArray, List.getElem_cons_succ, List.getElem_cons_zero, List.setIfInBounds_toArray, List.set_cons_zero, List.set_cons_succ]
          refine wpAnyH_take (i := 4) (v := ?_) rfl (by kernel_rfl) (by kernel_rfl) (by kernel_rfl) (fun _ _ _ h => h) (Or.inl ⟨by rfl, ?_⟩) hHeld ?_
          rotate_left
          · intro w' hSw; try dsimp only at hSw
            have c0 := hSw.cell' (i := 0) rfl
            have c1 := hSw.cell' (i := 1) rfl
            have c2 := hSw.cell' (i := 2) rfl
            go_simp; try (with_reducible rfl)
          try simp only [Act.put, List.getElem_toArray, List.getElem_cons_succ, List.getElem_cons_zero, List.setIfInBounds_toArray, List.set_cons_zero, List.set_cons_succ]
          refine wpAnyH_take (i := 5) (v := ?_) rfl (by kernel_rfl) (by kernel_rfl) (by kernel_rfl) (fun _ _ _ h => h) (Or.inl ⟨by rfl, ?_⟩) hHeld ?_
          rotate_left
          · intro w' hSw; try dsimp only at hSw
            have c0 := hSw.cell' (i := 0) rfl
            have c1 := hSw.cell' (i := 1) rfl
            have c2 := hSw.cell' (i := 2) rfl
            go_simp; try (with_reducible rfl)
          try simp only [Act.put, List.getElem_toArray, List.getElem_cons_succ, List.getElem_cons_zero, List.setIfInBounds_toArray, List.set_cons_zero, List.set_cons_succ]
          refine wpAnyH_take (i := 6) (v := ?_) rfl (by kernel_rfl) (by kernel_rfl) (by kernel_rfl) (fun _ _ _ h => h) (Or.inl ⟨by rfl, ?_⟩) hHeld ?_
          rotate_left
          · intro w' hSw; try dsimp only at hSw
            have c0 := hSw.cell' (i := 0) rfl
            have c1 := hSw.cell' (i := 1) rfl
            have c2 := hSw.cell' (i := 2) rfl
            go_simp; try (with_reducible rfl)
          try simp only [Act.put, List.getElem_toArray, List.getElem_cons_succ, List.getElem_cons_zero, List.setIfInBounds_toArray, List.set_cons_zero, List.set_cons_succ]
          refine wpAnyH_done (by kernel_rfl) ?_ _
          refine NoPanic.normal ?_
          clear hHeld
          go_wp2
          go_ret3
          exact ⟨by rw [HR.out]; rfl, hb1.trans ((hb.trans (hb9.drew.mono hb.size)).mono hb1.size)⟩
        · have HN : Hid (atL t x = atL (t.drop (k + 1)) x) := by show _ = _; rw [HC.out, if_neg hxl, if_neg (by unfold endI at hxn; omega)]
          have hb9 := hb.trans ((below_al (below_alloc wr (.cells #[.int .i64 e.lo, .int .i64 e.ln, .int .i64 e.ph] 31)) (.cells #[.int .i64 e.lo, .int .i64 e.ln, .int .i64 e.ph] 31)).mono hb.size)
          clear heo
          go_wp2_with fail
          refine (end_any e _ HO.out).mono ?_
          rintro e9 w2 ⟨rfl, rfl⟩
          go_wp2
          go_roundw
          case rel => exact ⟨k + 1, by omega, by go_num, HN.out, hb9⟩
          case measure => simp [intOf]; omega
    · obtain rfl : k = n1 := by omega
      have hkn : ¬ (k : Int) < (k : Int) := by omega
      have HR : Hid (atR l x = (0, 65536 - x, false)) := by show _ = _; rw [HA.out, HD.out, List.drop_of_length_le (by rw [HL.out]; exact Nat.le_refl _)]; rfl
      have hws : IntKind.i64.wrap (65536 - x) = 65536 - x := by rw [IntKind.wrap_i64]; omega
      go_wp2
      go_ret3
      exact ⟨by rw [HR.out]; rfl, hb1.trans (hb.mono hb1.size)⟩
end Go.Proofs.Ytmboohadindlfaa
