/-
  What readRecords does.
-/
import Derived.Test.YtpikaagdiafieaaMjB7
namespace Go.Proofs.Ytpikaagdiafieaa
open Go.RowKit
theorem cell_same {X W : World} {b : Nat} (h : X.heap[b]? = W.heap[b]?) (o : Nat) : X.cell? ⟨b, o, none⟩ = W.cell? ⟨b, o, none⟩ := by
  simp only [World.cell?, h]
/-- A record off bytes. -/
def recAt (xs : List Nat) (i : Nat) : MR := ⟨wI (fld recW (subL xs (16 + 10 * i) 10) 0), wI (fld recW (subL xs (16 + 10 * i) 10) 1), wI (fld recW (subL xs (16 + 10 * i) 10) 2)⟩
def recsL (xs : List Nat) (m : Nat) : List MR := (List.range m).map (recAt xs)
theorem recsL_length (xs : List Nat) (m : Nat) : (recsL xs m).length = m := by simp [recsL]
theorem recsL_succ (xs : List Nat) (m : Nat) : recsL xs (m + 1) = recsL xs m ++ [recAt xs m] := by simp [recsL, List.range_succ]
/-- What the bytes of records tell, with m records. -/
def readRecsP (k gn pt : Int) (xs : List Nat) (m : Nat) : MP := ⟨k, gn, pt, 0, [], [], recsL xs m⟩
theorem wp_append_rec1 {o : Oper} {a : Act} {K : Act → World → Prop} {Q : Exit → Act → World → Prop} (s x : Operand)
    (ho : o.op = .call { callee := .builtin .append, args := #[s, x], argTypes := #[34, 34] }) (B : Nat) (v : Value) (l : List MR) (r : MR) (W : World) (gl : Nat) (hs : a.eval s = v) (hown : W.ownsRow B 65 3 v l.length (flatM l))
    (hx : a.eval x = .slice (some ⟨gl, 0, none⟩) 1 1) (hlit : Blk W gl 65 r.cells) (hlen : l.length ≤ 1000000) (hB : B ≤ W.heap.size)
    (hK : ∀ p' c' w', w'.ownsRow B 65 3 (.slice p' (l.length + 1) c') (l.length + 1) (flatM (l ++ [r])) → W.grownBy w' v.ownBlock → Below B W w' → K (a.put o.dst (.slice p' (l.length + 1) c')) w') : o.wp Try.prog a W K Q := by
  obtain ⟨i0, hi, hz0, hz1, hz2⟩ := info_parts infoR
  refine wp_append_own _ s x 34 ho B 65 i0 (.agg #[.int .i64 0, .int .i64 0, .int .i64 0]) 3 24 Try.underlying34 hi hz0 hz1 hz2 rfl (by decide) v l.length (flatM l) hs hown ⟨gl, 0, none⟩ 1 1 r.cells hx rfl (fun j u hj => ?_) ?_ (by unfold maxLen; omega) (by omega) hB ?_
  · rw [addr_add, Nat.zero_add]; exact hlit.cell' hj
  · simp [MR.cells, Value.oneCell']
  · intro v1 w1 hown1 hgrow1 _
    have e : flatM l ++ r.cells = flatM (l ++ [r]) := by rw [flatM_append]; simp [flatM]
    rw [e] at hown1
    obtain ⟨p', c', hv⟩ := owns_sliceR hown1
    subst hv
    exact hK p' c' w1 hown1 hgrow1 ((Below.refl _ _).grown hgrow1 hB (fun k hk => (hown.lt k hk).1))
theorem at_rec : atW recW recW.length = 8 * bytesW recW := by decide
set_option linter.unusedSimpArgs false in
set_option maxRecDepth 100000 in
set_option maxHeartbeats 4000000 in
theorem readRecs_any (B g gb ob c m : Nat) (k gn pt : Int) (xs : List Nat) (w : World) (hB : B ≤ g) (hp : Blk w g 42 [.int .i64 k, .int .i64 gn, .int .i64 pt, .int .i64 0, .slice none 0 0, .slice none 0 0, .slice none 0 0])
    (hb : ∀ W, Below B w W → In W (some ⟨gb, ob, none⟩) 256 c xs) (hm : m ≤ 24) :
    Calls Try.prog 88 #[.pointer (some ⟨g, 0, none⟩), .slice (some ⟨gb, ob, none⟩) 256 c, .int .i64 16, .int .i64 (m : Int)] w fun e w' =>
      e = .returned (.tuple #[]) ∧ ∃ V : PV, Blk w' g 42 (V.cells (readRecsP k gn pt xs m)) ∧ OwnP w.heap.size w' V (readRecsP k gn pt xs m) ∧ Below B w w' := by
  have hBw : B ≤ w.heap.size := Nat.le_trans hB (Nat.le_of_lt hp.lt)
  have hgw := hp.lt
  go_enter Try.func88, Try.ntmps88
  go_wp2
  go_loopw [2, 10] (fun at' i wr => ∃ (j A : Nat) (pv : Option Addr) (cv : Nat), j ≤ m ∧ A = 16 + 10 * j ∧ i = .int .i64 j ∧ at' = .int .i64 A ∧ Blk wr g 42 [.int .i64 k, .int .i64 gn, .int .i64 pt, .int .i64 0, .slice none 0 0, .slice none 0 0, .slice pv j cv] ∧ wr.ownsRow w.heap.size 65 3 (.slice pv j cv) j (flatM (recsL xs j)) ∧ Below B w wr) (fun _ i _ => m - (intOf i).toNat)
  case atStart => exact ⟨0, 16, none, 0, Nat.zero_le _, rfl, rfl, rfl, hp, nilR _ _, Below.refl _ _⟩
  case round =>
    obtain ⟨j, A, pv, cv, hj, hA0, rfl, rfl, hpr, hown0, hbel⟩ := hrel
    have HA : Hid (A = 16 + 10 * j) := hA0
    have HAK : Hid (j < m → A < 256 ∧ A + 10 ≤ 256) := fun h => by omega
    clear hA0 hp
    by_cases hlt : j < m
    · have HRR : Hid ((⟨wI (fld recW (subL xs A 10) 0), wI (fld recW (subL xs A 10) 1), wI (fld recW (subL xs A 10) 2)⟩ : MR) = recAt xs j) := by show _ = _; rw [HA.out]; rfl
      have E0 : Hid (el (valsTo recW (subL xs A 10) recW.length) 0 = ((fld recW (subL xs A 10) 0 : Nat) : Int)) := el_vals (by decide)
      have E1 : Hid (el (valsTo recW (subL xs A 10) recW.length) 1 = ((fld recW (subL xs A 10) 1 : Nat) : Int)) := el_vals (by decide)
      have E2 : Hid (el (valsTo recW (subL xs A 10) recW.length) 2 = ((fld recW (subL xs A 10) 2 : Nat) : Int)) := el_vals (by decide)
      generalize fld recW (subL xs A 10) 0 = F0 at *
      generalize fld recW (subL xs A 10) 1 = F1 at *
      generalize fld recW (subL xs A 10) 2 = F2 at *
      have hr0 : IntKind.i64.wrap (F0 : Int) = wI F0 := rfl
      have hr1 : IntKind.i64.wrap (F1 : Int) = wI F1 := rfl
      have hr2 : IntKind.i64.wrap (F2 : Int) = wI F2 := rfl
      have hs0 : wrap64 (F0 : Int) = wI F0 := wI_64 F0
      have hs1 : wrap64 (F1 : Int) = wI F1 := wI_64 F1
      have hs2 : wrap64 (F2 : Int) = wI F2 := wI_64 F2
      generalize wI F0 = R0 at *
      generalize wI F1 = R1 at *
      generalize wI F2 = R2 at *
      go_upto_region 4 with (first
        | (go_at_call 85; refine (recW_any _).mono ?_; rintro e w1 ⟨gw, cw, rfl, hw1, hb1⟩; have hB1 : Below B w w1 := hbel.trans (hb1.mono (Nat.le_trans hBw hbel.size)))
        | (go_at_call 86; refine (take_al gb ob 256 c A 10 xs _ 3 _ recW _ (hb _ hB1) (by decide) hw1 (by decide) bytes_rec at_rec (HAK.out hlt).1 (HAK.out hlt).2).mono ?_; rintro e W ⟨p2, c2, rfl, hin2, hb2, hf2⟩))
      have hBW : Below B w W := hB1.trans (hb2.mono (Nat.le_trans hBw hB1.size))
      have hpW := (hpr.kept hb1).kept hb2
      have hown := owns_below (owns_below hown0 hb1) hb2
      obtain ⟨br, oo, rfl, hbrW, hc2⟩ := hin2.at' (by decide)
      have hfr := hf2 _ rfl
      have c0 := hc2 0 (by decide)
      have c1 := hc2 1 (by decide)
      have c2' := hc2 2 (by decide)
      rw [E0.out, Nat.add_zero] at c0
      rw [E1.out] at c1
      rw [E2.out] at c2'
      have hbg : br ≠ g := by have := hpr.lt; have := hb1.size; have : w1.heap.size ≤ br := hfr; omega
      have hnbr : some br ≠ (Value.slice pv j cv).ownBlock := by
        intro h
        have := (hown0.lt br h.symm).2
        have := hb1.size
        have : w1.heap.size ≤ br := hfr
        omega
      have hng : some g ≠ (Value.slice pv j cv).ownBlock := by
        intro h
        cases pv with
        | none => cases h
        | some a => exact owns_blk_ne (by decide) hown hpW a rfl (Option.some.inj h).symm
      clear hc2 hin2 hf2 hfr E0 E1 E2 hw1 hB1 hpr hown0 hb1 hb2
      have y6 := hpW.cell' (i := 6) rfl
      refine wp_region_noPanic ?_
      refine wp_region_held_drew (S := fun X => X.heap[br]? = W.heap[br]?) (by kernel_rfl) rfl (fun hHeld => ?_)
      refine wpAnyH_take (i := 0) (v := ?_) rfl (by kernel_rfl) (by kernel_rfl) (by kernel_rfl) (fun _ _ _ h => h) (Or.inl ⟨by rfl, ?_⟩) hHeld ?_
      rotate_left
      · intro w' hSw; try dsimp only at hSw
        go_simp; try (with_reducible rfl)
      try simp only [Act.put, List.getElem_toArray, List.getElem_cons_succ, List.getElem_cons_zero, List.setIfInBounds_toArray, List.set_cons_zero, List.set_cons_succ]
      refine wpAnyH_take (i := 1) (v := ?_) rfl (by kernel_rfl) (by kernel_rfl) (by kernel_rfl) (fun _ _ _ h => h) (Or.inl ⟨by rfl, ?_⟩) hHeld ?_
      rotate_left
      · intro w' hSw; try dsimp only at hSw
        go_simp; try (with_reducible rfl)
      try simp only [Act.put, List.getElem_toArray, List.getElem_cons_succ, List.getElem_cons_zero, List.setIfInBounds_toArray, List.set_cons_zero, List.set_cons_succ]
      refine wpAnyH_take (i := 2) (v := ?_) rfl (by kernel_rfl) (by kernel_rfl) (by kernel_rfl) (fun _ _ _ h => h) (Or.inl ⟨by rfl, ?_⟩) hHeld ?_
      rotate_left
      · intro w' hSw; try dsimp only at hSw
        go_simp; try (with_reducible rfl)
      try simp only [Act.put, List.getElem_toArray, List.getElem_cons_succ, List.getElem_cons_zero, List.setIfInBounds_toArray, List.set_cons_zero, List.set_cons_succ]
      refine wpAnyH_take (i := 3) (v := ?_) rfl (by kernel_rfl) (by kernel_rfl) (by kernel_rfl) (fun _ _ _ h => h) (Or.inl ⟨by rfl, ?_⟩) hHeld ?_
      rotate_left
      · intro w' hSw; try dsimp only at hSw
        go_simp; try (with_reducible rfl)
      try simp only [Act.put, List.getElem_toArray, List.getElem_cons_succ, List.getElem_cons_zero, List.setIfInBounds_toArray, List.set_cons_zero, List.set_cons_succ]
      refine wpAnyH_take (i := 5) (v := ?_) rfl (by kernel_rfl) (by kernel_rfl) (by kernel_rfl) (fun _ _ _ h => h) (Or.inl ⟨by rfl, ?_⟩) hHeld ?_
      rotate_left
      · intro w' hSw; try dsimp only at hSw
        go_simp; try (with_reducible rfl)
      try simp only [Act.put, List.getElem_toArray, List.getElem_cons_succ, List.getElem_cons_zero, List.setIfInBounds_toArray, List.set_cons_zero, List.set_cons_succ]
      refine wpAnyH_take (i := 6) (v := ?_) rfl (by kernel_rfl) (by kernel_rfl) (by kernel_rfl) (fun _ _ _ h => h) (Or.inl ⟨by rfl, ?_⟩) hHeld ?_
      rotate_left
      · intro w' hSw; try dsimp only at hSw
        go_simp; try (with_reducible rfl)
      try simp only [Act.put, List.getElem_toArray, List.getElem_cons_succ, List.getElem_cons_zero, List.setIfInBounds_toArray, List.set_cons_zero, List.set_cons_succ]
      refine wpAnyH_take (i := 7) (v := ?_) rfl (by kernel_rfl) (by kernel_rfl) (by kernel_rfl) (fun _ _ _ h => h) (Or.inl ⟨by rfl, ?_⟩) hHeld ?_
      rotate_left
      · intro w' hSw; try dsimp only at hSw
        have d0 := (cell_same hSw oo).trans c0
        have d1 := (cell_same hSw (oo + 1)).trans c1
        have d2 := (cell_same hSw (oo + 2)).trans c2'
        go_simp; try (with_reducible rfl)
      try simp only [Act.put, List.getElem_toArray, List.getElem_cons_succ, List.getElem_cons_zero, List.setIfInBounds_toArray, List.set_cons_zero, List.set_cons_succ]
      refine wpAnyH_take (i := 8) (v := ?_) rfl (by kernel_rfl) (by kernel_rfl) (by kernel_rfl) (fun _ _ _ h => h) (Or.inl ⟨by rfl, ?_⟩) hHeld ?_
      rotate_left
      · intro w' hSw; try dsimp only at hSw
        go_simp; try (with_reducible rfl)
      try simp only [Act.put, List.getElem_toArray, List.getElem_cons_succ, List.getElem_cons_zero, List.setIfInBounds_toArray, List.set_cons_zero, List.set_cons_succ]
      refine wpAnyH_take (i := 9) (v := ?_) rfl (by kernel_rfl) (by kernel_rfl) (by kernel_rfl) (fun _ _ _ h => h) (Or.inl ⟨by rfl, ?_⟩) hHeld ?_
      rotate_left
      · intro w' hSw; try dsimp only at hSw
        go_simp; try (with_reducible rfl)
      try simp only [Act.put, List.getElem_toArray, List.getElem_cons_succ, List.getElem_cons_zero, List.setIfInBounds_toArray, List.set_cons_zero, List.set_cons_succ]
      refine wpAnyH_take (i := 10) (v := ?_) rfl (by kernel_rfl) (by kernel_rfl) (by kernel_rfl) (fun _ _ _ h => h) (Or.inl ⟨by rfl, ?_⟩) hHeld ?_
      rotate_left
      · intro w' hSw; try dsimp only at hSw
        go_simp; try (with_reducible rfl)
      try simp only [Act.put, List.getElem_toArray, List.getElem_cons_succ, List.getElem_cons_zero, List.setIfInBounds_toArray, List.set_cons_zero, List.set_cons_succ]
      refine wpAnyH_take (i := 11) (v := ?_) rfl (by kernel_rfl) (by kernel_rfl) (by kernel_rfl) (fun _ _ _ h => h) (Or.inl ⟨by rfl, ?_⟩) hHeld ?_
      rotate_left
      · intro w' hSw; try dsimp only at hSw
        have d0 := (cell_same hSw oo).trans c0
        have d1 := (cell_same hSw (oo + 1)).trans c1
        have d2 := (cell_same hSw (oo + 2)).trans c2'
        go_simp; try (with_reducible rfl)
      try simp only [Act.put, List.getElem_toArray, List.getElem_cons_succ, List.getElem_cons_zero, List.setIfInBounds_toArray, List.set_cons_zero, List.set_cons_succ]
      refine wpAnyH_take (i := 12) (v := ?_) rfl (by kernel_rfl) (by kernel_rfl) (by kernel_rfl) (fun _ _ _ h => h) (Or.inl ⟨by rfl, ?_⟩) hHeld ?_
      rotate_left
      · intro w' hSw; try dsimp only at hSw
        go_simp; try (with_reducible rfl)
      try simp only [Act.put, List.getElem_toArray, List.getElem_cons_succ, List.getElem_cons_zero, List.setIfInBounds_toArray, List.set_cons_zero, List.set_cons_succ]
      refine wpAnyH_take (i := 13) (v := ?_) rfl (by kernel_rfl) (by kernel_rfl) (by kernel_rfl) (fun _ _ _ h => h) (Or.inl ⟨by rfl, ?_⟩) hHeld ?_
      rotate_left
      · intro w' hSw; try dsimp only at hSw
        go_simp; try (with_reducible rfl)
      try simp only [Act.put, List.getElem_toArray, List.getElem_cons_succ, List.getElem_cons_zero, List.setIfInBounds_toArray, List.set_cons_zero, List.set_cons_succ]
      refine wpAnyH_take (i := 14) (v := ?_) rfl (by kernel_rfl) (by kernel_rfl) (by kernel_rfl) (fun _ _ _ h => h) (Or.inl ⟨by rfl, ?_⟩) hHeld ?_
      rotate_left
      · intro w' hSw; try dsimp only at hSw
        go_simp; try (with_reducible rfl)
      try simp only [Act.put, List.getElem_toArray, List.getElem_cons_succ, List.getElem_cons_zero, List.setIfInBounds_toArray, List.set_cons_zero, List.set_cons_succ]
      refine wpAnyH_take (i := 15) (v := ?_) rfl (by kernel_rfl) (by kernel_rfl) (by kernel_rfl) (fun _ _ _ h => h) (Or.inl ⟨by rfl, ?_⟩) hHeld ?_
      rotate_left
      · intro w' hSw; try dsimp only at hSw
        have d0 := (cell_same hSw oo).trans c0
        have d1 := (cell_same hSw (oo + 1)).trans c1
        have d2 := (cell_same hSw (oo + 2)).trans c2'
        go_simp; try (with_reducible rfl)
      try simp only [Act.put, List.getElem_toArray, List.getElem_cons_succ, List.getElem_cons_zero, List.setIfInBounds_toArray, List.set_cons_zero, List.set_cons_succ]
      refine wpAnyH_take (i := 16) (v := ?_) rfl (by kernel_rfl) (by kernel_rfl) (by kernel_rfl) (fun _ _ _ h => h) (Or.inl ⟨by rfl, ?_⟩) hHeld ?_
      rotate_left
      · intro w' hSw; try dsimp only at hSw
        go_simp; try (with_reducible rfl)
      try simp only [Act.put, List.getElem_toArray, List.getElem_cons_succ, List.getElem_cons_zero, List.setIfInBounds_toArray, List.set_cons_zero, List.set_cons_succ]
      refine wpAnyH_take (i := 17) (v := ?_) rfl (by kernel_rfl) (by kernel_rfl) (by kernel_rfl) (fun _ _ _ h => h) (Or.inl ⟨by rfl, ?_⟩) hHeld ?_
      rotate_left
      · intro w' hSw; try dsimp only at hSw
        go_simp; try (with_reducible rfl)
      try simp only [Act.put, List.getElem_toArray, List.getElem_cons_succ, List.getElem_cons_zero, List.setIfInBounds_toArray, List.set_cons_zero, List.set_cons_succ]
      refine wpAnyH_ready (rs := [4, 18]) (by kernel_rfl) (by simp) ?_
      refine AllReadyH.cons rfl (fun K hK => ?_) ?_
      · go_simp
        refine hK.out _ _ hHeld (fun hHeld => ?_)
        clear hK K
        try simp only [Act.put, List.getElem_toArray, List.getElem_cons_succ, List.getElem_cons_zero, List.setIfInBounds_toArray, List.set_cons_zero, List.set_cons_succ]
        refine wpAnyH_ready (rs := [18]) (by kernel_rfl) (by simp) ?_
        refine AllReadyH.cons rfl (fun K hK => ?_) AllReadyH.nil
        go_simp
        refine hK.out _ _ ((Below.heap_alloc W (.cells #[.int .i64 R0, .int .i64 R1, .int .i64 R2] 65) br hbrW).trans rfl) (fun hHeld => ?_)
        clear hK K
        try simp only [Act.put, List.getElem_toArray, List.getElem_cons_succ, List.getElem_cons_zero, List.setIfInBounds_toArray, List.set_cons_zero, List.set_cons_succ]
        have hownL := owns_below hown ((below_alloc W (.cells #[.int .i64 R0, .int .i64 R1, .int .i64 R2] 65)).drew)
        have hpL := hpW.kept ((below_alloc W (.cells #[.int .i64 R0, .int .i64 R1, .int .i64 R2] 65)).drew)
        have hlitL : Blk (W.alloc (.cells #[.int .i64 R0, .int .i64 R1, .int .i64 R2] 65)).drew W.heap.size 65 [.int .i64 R0, .int .i64 R1, .int .i64 R2] := (Blk.new' W 65 #[.int .i64 R0, .int .i64 R1, .int .i64 R2]).drew
        refine wpAnyH_ready (rs := [19]) (by kernel_rfl) (by simp) ?_
        refine AllReadyH.cons rfl (fun K hK => ?_) AllReadyH.nil
        rw [if_pos (by rfl)]
        refine wp_append_rec1 (.tmp 23) (.tmp 37) rfl w.heap.size _ (recsL xs j) ⟨R0, R1, R2⟩ _ W.heap.size rfl (by rw [recsL_length]; exact hownL) rfl hlitL (by rw [recsL_length]; omega) (by show w.heap.size ≤ (W.alloc (.cells #[.int .i64 R0, .int .i64 R1, .int .i64 R2] 65)).heap.size; rw [World.size_alloc]; have := hBW.size; omega) ?_
        intro p5 c5 w5 ho5 hg5 hb5
        rw [recsL_length] at ho5 ⊢
        refine hK.out _ _ ((hg5.block br (by have := hpW.lt; have := hbrW; show _ < (W.alloc (.cells #[.int .i64 R0, .int .i64 R1, .int .i64 R2] 65)).heap.size; rw [World.size_alloc]; omega) hnbr).trans hHeld) (fun hHeld => ?_)
        clear hK K
        try simp only [Act.put, List.getElem_toArray, List.getElem_cons_succ, List.getElem_cons_zero, List.setIfInBounds_toArray, List.set_cons_zero, List.set_cons_succ]
        have hp5 : Blk w5 g 42 _ := (hg5.block g (by have := hpW.lt; have := hbrW; show _ < (W.alloc (.cells #[.int .i64 R0, .int .i64 R1, .int .i64 R2] 65)).heap.size; rw [World.size_alloc]; omega) hng).trans hpL
        refine wpAnyH_take (i := 20) (v := ?_) rfl (by kernel_rfl) (by kernel_rfl) (by kernel_rfl) (fun _ _ _ h => h) (Or.inl ⟨by rfl, ?_⟩) hHeld ?_
        rotate_left
        · intro w' hSw; try dsimp only at hSw
          go_simp; try (with_reducible rfl)
        try simp only [Act.put, List.getElem_toArray, List.getElem_cons_succ, List.getElem_cons_zero, List.setIfInBounds_toArray, List.set_cons_zero, List.set_cons_succ]
        refine wpAnyH_take (i := 21) (v := ?_) rfl (by kernel_rfl) (by kernel_rfl) (by kernel_rfl) (fun _ _ _ h => h) (Or.inl ⟨by rfl, ?_⟩) hHeld ?_
        rotate_left
        · intro w' hSw; try dsimp only at hSw
          go_simp; try (with_reducible rfl)
        try simp only [Act.put, List.getElem_toArray, List.getElem_cons_succ, List.getElem_cons_zero, List.setIfInBounds_toArray, List.set_cons_zero, List.set_cons_succ]
        refine wpAnyH_ready (rs := [22]) (by kernel_rfl) (by simp) ?_
        refine AllReadyH.cons rfl (fun K hK => ?_) AllReadyH.nil
        rw [if_pos (by rfl)]
        refine wp_store_cell 34 (.tmp 40) (.tmp 38) rfl g 6 (.slice p5 (j + 1) c5) rfl rfl hp5 (by show 6 < 7; decide) sizeRs rfl ?_
        intro w6 hp6 ht6
        refine hK.out _ _ ((ht6.block br hbg).trans hHeld) (fun hHeld => ?_)
        clear hK K
        try simp only [Act.put, List.getElem_toArray, List.getElem_cons_succ, List.getElem_cons_zero, List.setIfInBounds_toArray, List.set_cons_zero, List.set_cons_succ]
        refine wpAnyH_done (by kernel_rfl) ?_ _
        refine NoPanic.normal ?_
        go_wp2_with fail
        go_roundw
        case rel =>
          refine ⟨j + 1, A + 10, p5, c5, by omega, by rw [HA.out]; omega, by go_num, rfl, hp6, ?_, ht6.below ((hBW.trans (((below_alloc W (.cells #[.int .i64 R0, .int .i64 R1, .int .i64 R2] 65)).drew).mono (Nat.le_trans hBw hBW.size))).trans (hb5.mono hBw)) hB⟩
          rw [recsL_succ, ← HRR.out]
          exact owns_turned ho5 ht6 (owns_blk_ne (by decide) ho5 hp5)
        case measure => simp [intOf]; omega
      refine AllReadyH.cons rfl (fun K hK => ?_) AllReadyH.nil
      go_simp
      refine hK.out _ _ ((Below.heap_alloc W (.cells #[.int .i64 R0, .int .i64 R1, .int .i64 R2] 65) br hbrW).trans rfl) (fun hHeld => ?_)
      clear hK K
      try simp only [Act.put, List.getElem_toArray, List.getElem_cons_succ, List.getElem_cons_zero, List.setIfInBounds_toArray, List.set_cons_zero, List.set_cons_succ]
      refine wpAnyH_ready (rs := [4]) (by kernel_rfl) (by simp) ?_
      refine AllReadyH.cons rfl (fun K hK => ?_) AllReadyH.nil
      have y6b := (Blk.drew (hpW.alloc (.cells #[.int .i64 R0, .int .i64 R1, .int .i64 R2] 65))).cell' (i := 6) rfl
      go_simp
      refine hK.out _ _ hHeld (fun hHeld => ?_)
      clear hK K
      try simp only [Act.put, List.getElem_toArray, List.getElem_cons_succ, List.getElem_cons_zero, List.setIfInBounds_toArray, List.set_cons_zero, List.set_cons_succ]
      have hownL := owns_below hown ((below_alloc W (.cells #[.int .i64 R0, .int .i64 R1, .int .i64 R2] 65)).drew)
      have hpL := hpW.kept ((below_alloc W (.cells #[.int .i64 R0, .int .i64 R1, .int .i64 R2] 65)).drew)
      have hlitL : Blk (W.alloc (.cells #[.int .i64 R0, .int .i64 R1, .int .i64 R2] 65)).drew W.heap.size 65 [.int .i64 R0, .int .i64 R1, .int .i64 R2] := (Blk.new' W 65 #[.int .i64 R0, .int .i64 R1, .int .i64 R2]).drew
      refine wpAnyH_ready (rs := [19]) (by kernel_rfl) (by simp) ?_
      refine AllReadyH.cons rfl (fun K hK => ?_) AllReadyH.nil
      rw [if_pos (by rfl)]
      refine wp_append_rec1 (.tmp 23) (.tmp 37) rfl w.heap.size _ (recsL xs j) ⟨R0, R1, R2⟩ _ W.heap.size rfl (by rw [recsL_length]; exact hownL) rfl hlitL (by rw [recsL_length]; omega) (by show w.heap.size ≤ (W.alloc (.cells #[.int .i64 R0, .int .i64 R1, .int .i64 R2] 65)).heap.size; rw [World.size_alloc]; have := hBW.size; omega) ?_
      intro p5 c5 w5 ho5 hg5 hb5
      rw [recsL_length] at ho5 ⊢
      refine hK.out _ _ ((hg5.block br (by have := hpW.lt; have := hbrW; show _ < (W.alloc (.cells #[.int .i64 R0, .int .i64 R1, .int .i64 R2] 65)).heap.size; rw [World.size_alloc]; omega) hnbr).trans hHeld) (fun hHeld => ?_)
      clear hK K
      try simp only [Act.put, List.getElem_toArray, List.getElem_cons_succ, List.getElem_cons_zero, List.setIfInBounds_toArray, List.set_cons_zero, List.set_cons_succ]
      have hp5 : Blk w5 g 42 _ := (hg5.block g (by have := hpW.lt; have := hbrW; show _ < (W.alloc (.cells #[.int .i64 R0, .int .i64 R1, .int .i64 R2] 65)).heap.size; rw [World.size_alloc]; omega) hng).trans hpL
      refine wpAnyH_take (i := 20) (v := ?_) rfl (by kernel_rfl) (by kernel_rfl) (by kernel_rfl) (fun _ _ _ h => h) (Or.inl ⟨by rfl, ?_⟩) hHeld ?_
      rotate_left
      · intro w' hSw; try dsimp only at hSw
        go_simp; try (with_reducible rfl)
      try simp only [Act.put, List.getElem_toArray, List.getElem_cons_succ, List.getElem_cons_zero, List.setIfInBounds_toArray, List.set_cons_zero, List.set_cons_succ]
      refine wpAnyH_take (i := 21) (v := ?_) rfl (by kernel_rfl) (by kernel_rfl) (by kernel_rfl) (fun _ _ _ h => h) (Or.inl ⟨by rfl, ?_⟩) hHeld ?_
      rotate_left
      · intro w' hSw; try dsimp only at hSw
        go_simp; try (with_reducible rfl)
      try simp only [Act.put, List.getElem_toArray, List.getElem_cons_succ, List.getElem_cons_zero, List.setIfInBounds_toArray, List.set_cons_zero, List.set_cons_succ]
      refine wpAnyH_ready (rs := [22]) (by kernel_rfl) (by simp) ?_
      refine AllReadyH.cons rfl (fun K hK => ?_) AllReadyH.nil
      rw [if_pos (by rfl)]
      refine wp_store_cell 34 (.tmp 40) (.tmp 38) rfl g 6 (.slice p5 (j + 1) c5) rfl rfl hp5 (by show 6 < 7; decide) sizeRs rfl ?_
      intro w6 hp6 ht6
      refine hK.out _ _ ((ht6.block br hbg).trans hHeld) (fun hHeld => ?_)
      clear hK K
      try simp only [Act.put, List.getElem_toArray, List.getElem_cons_succ, List.getElem_cons_zero, List.setIfInBounds_toArray, List.set_cons_zero, List.set_cons_succ]
      refine wpAnyH_done (by kernel_rfl) ?_ _
      refine NoPanic.normal ?_
      go_wp2_with fail
      go_roundw
      case rel =>
        refine ⟨j + 1, A + 10, p5, c5, by omega, by rw [HA.out]; omega, by go_num, rfl, hp6, ?_, ht6.below ((hBW.trans (((below_alloc W (.cells #[.int .i64 R0, .int .i64 R1, .int .i64 R2] 65)).drew).mono (Nat.le_trans hBw hBW.size))).trans (hb5.mono hBw)) hB⟩
        rw [recsL_succ, ← HRR.out]
        exact owns_turned ho5 ht6 (owns_blk_ne (by decide) ho5 hp5)
      case measure => simp [intOf]; omega
    · have hjm : j = m := by omega
      subst hjm
      go_wp2
      go_end0
      exact ⟨rfl, ⟨none, 0, 0, none, 0, 0, pv, j, cv⟩, hpr, ⟨⟨rfl, .inl ⟨rfl, rfl⟩⟩, ⟨rfl, .inl ⟨rfl, rfl⟩⟩, hown0, Nat.zero_le _, Nat.zero_le _, by show j ≤ _; omega⟩, hbel⟩
end Go.Proofs.Ytpikaagdiafieaa
