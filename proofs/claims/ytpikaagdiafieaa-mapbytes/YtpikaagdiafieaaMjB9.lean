/-
  What read tells of bytes.
-/
import Derived.Test.YtpikaagdiafieaaMjB8
namespace Go.Proofs.Ytpikaagdiafieaa
open Go.RowKit
def hd (xs : List Nat) (i : Nat) : Nat := fld headW (subL xs 0 16) i
/-- What bytes tell. -/
def readP (xs : List Nat) : MP :=
  if wI (hd xs 0) = 1 then readPartP (wI (hd xs 0)) (wI (hd xs 4)) (wI (hd xs 1)) xs (min (hd xs 2) 64)
  else if wI (hd xs 0) = 2 then readRecsP (wI (hd xs 0)) (wI (hd xs 4)) (wI (hd xs 1)) xs (min (hd xs 2) 24)
  else ⟨wI (hd xs 0), wI (hd xs 4), wI (hd xs 1), 0, [], [], []⟩
theorem at_head : atW headW headW.length = 8 * bytesW headW := by decide
theorem hd2_lt (xs : List Nat) : hd xs 2 < 256 := getN_lt _ _ 8
theorem min_int (a b : Nat) (W : World) : (Builtin.min_ #[3, 3] 3 #[.int .i64 (a : Int), .int .i64 (b : Int)]).run Try.prog W = .ok (.int .i64 ((min a b : Nat) : Int)) W := by
  rw [run_min_int2]
  rcases Nat.lt_or_ge b a with h | h
  · rw [if_pos (show (b : Int) < (a : Int) by omega), Nat.min_eq_right (by omega)]
  · rw [if_neg (show ¬ (b : Int) < (a : Int) by omega), Nat.min_eq_left h]
theorem ret_mp {fn : Func} {p : Tmp} (h : fn.results = #[.cell p 42]) {R : Ending → World → Prop} {a : Act} {w : World} {g : Nat} {t : TypeId} {V : PV} {P : MP} (hp : a.tmps.getD p undef = .pointer (some ⟨g, 0, none⟩))
    (hb : Blk w g t (V.cells P)) (hd : a.defers = []) (hR : R (.returned (V.val P)) w) : bodyPost Try.prog fn R .ret a w :=
  bodyPost_ret (results_cell_row h _ _ g t #[.int .i64 P.kind, .int .i64 P.gen, .int .i64 P.part, .int .i64 P.seq, .slice V.pb V.nb V.cb, .slice V.pw V.nw V.cw, .slice V.pr V.nr V.cr] (0, 0) _ hp hb Try.underlying42 rfl (by kernel_rfl)) hd hR
set_option linter.unusedSimpArgs false in
set_option maxRecDepth 100000 in
set_option maxHeartbeats 4000000 in
theorem read_any (gb ob c : Nat) (xs : List Nat) (w : World) (hb : In w (some ⟨gb, ob, none⟩) 256 c xs) :
    Calls Try.prog 69 #[.slice (some ⟨gb, ob, none⟩) 256 c] w fun e w' => ∃ V : PV, e = .returned (V.val (readP xs)) ∧ OwnP w.heap.size w' V (readP xs) ∧ Below w.heap.size w w' := by
  have r0 := Blk.new' w 42 #[.int .i64 0, .int .i64 0, .int .i64 0, .int .i64 0, .slice none 0 0, .slice none 0 0, .slice none 0 0]
  have hb0 := below_alloc w (.cells #[.int .i64 0, .int .i64 0, .int .i64 0, .int .i64 0, .slice none 0 0, .slice none 0 0, .slice none 0 0] 42)
  have E0 : Hid (el (valsTo headW (subL xs 0 16) headW.length) 0 = ((hd xs 0 : Nat) : Int)) := el_vals (by decide)
  have E1 : Hid (el (valsTo headW (subL xs 0 16) headW.length) 1 = ((hd xs 1 : Nat) : Int)) := el_vals (by decide)
  have E2 : Hid (el (valsTo headW (subL xs 0 16) headW.length) 2 = ((hd xs 2 : Nat) : Int)) := el_vals (by decide)
  have E4 : Hid (el (valsTo headW (subL xs 0 16) headW.length) 4 = ((hd xs 4 : Nat) : Int)) := el_vals (by decide)
  have HP : Hid (readP xs = if wI (hd xs 0) = 1 then readPartP (wI (hd xs 0)) (wI (hd xs 4)) (wI (hd xs 1)) xs (min (hd xs 2) 64) else if wI (hd xs 0) = 2 then readRecsP (wI (hd xs 0)) (wI (hd xs 4)) (wI (hd xs 1)) xs (min (hd xs 2) 24) else ⟨wI (hd xs 0), wI (hd xs 4), wI (hd xs 1), 0, [], [], []⟩) := rfl
  have h2 := hd2_lt xs
  generalize readP xs = RP at *
  generalize hd xs 0 = H0 at *
  generalize hd xs 1 = H1 at *
  generalize hd xs 2 = H2 at *
  generalize hd xs 4 = H4 at *
  have hr0 : IntKind.i64.wrap (H0 : Int) = wI H0 := rfl
  have hr1 : IntKind.i64.wrap (H1 : Int) = wI H1 := rfl
  have hr4 : IntKind.i64.wrap (H4 : Int) = wI H4 := rfl
  have hs0 : wrap64 (H0 : Int) = wI H0 := wI_64 H0
  have hs1 : wrap64 (H1 : Int) = wI H1 := wI_64 H1
  have hs4 : wrap64 (H4 : Int) = wI H4 := wI_64 H4
  have hr2 : IntKind.i64.wrap (H2 : Int) = (H2 : Int) := wI_small (x := H2) (by omega)
  have hs2 : wrap64 (H2 : Int) = (H2 : Int) := (wI_64 H2).trans (wI_small (by omega))
  generalize wI H0 = K0 at *
  generalize wI H1 = K1 at *
  generalize wI H4 = K4 at *
  go_enter Try.func69, Try.ntmps69
  go_upto_region 2 with (first
    | (go_at_call 80; refine (headW_any _).mono ?_; rintro e w1 ⟨gw, cw, rfl, hw1, hb1⟩)
    | (go_at_call 86; refine (take_al gb ob 256 c 0 16 xs _ 5 _ headW _ (hb.below (bt hb0 hb1)) (by decide) hw1 (by decide) bytes_head at_head (by decide) (by decide)).mono ?_; rintro e W ⟨p2, c2, rfl, hin2, hb2, -⟩))
  have hBW := bt (bt hb0 hb1) hb2
  have rW := (r0.kept hb1).kept hb2
  obtain ⟨br, oo, rfl, hbrW, hc2⟩ := hin2.at' (by decide)
  have c0 := hc2 0 (by decide)
  have c1 := hc2 1 (by decide)
  have c2' := hc2 2 (by decide)
  have c4 := hc2 4 (by decide)
  rw [E0.out, Nat.add_zero] at c0
  rw [E1.out] at c1
  rw [E2.out] at c2'
  rw [E4.out] at c4
  clear hc2 hin2 E0 E1 E2 E4 hw1 hb0 hb1 hb2 r0
  refine wp_region_noPanic ?_
  refine wp_region_held_drew (S := Below W.heap.size W) (by kernel_rfl) (Below.refl _ _).drew (fun hHeld => ?_)
  refine wpAnyH_take (i := 0) (v := ?_) rfl (by kernel_rfl) (by kernel_rfl) (by kernel_rfl) (fun _ _ _ h => h) (Or.inl ⟨by rfl, ?_⟩) hHeld ?_
  rotate_left
  · intro w' hSw; try dsimp only at hSw
    go_simp; try (with_reducible rfl)
  try simp only [Act.put, List.getElem_toArray, List.getElem_cons_succ, List.getElem_cons_zero, List.setIfInBounds_toArray, List.set_cons_zero, List.set_cons_succ]
  refine wpAnyH_take (i := 1) (v := ?_) rfl (by kernel_rfl) (by kernel_rfl) (by kernel_rfl) (fun _ _ _ h => h) (Or.inl ⟨by rfl, ?_⟩) hHeld ?_
  rotate_left
  · intro w' hSw; try dsimp only at hSw
    go_simp; try (with_reducible rfl)
  try simp only [Act.put, List.getElem_toArray, List.getElem_cons_succ, List.getElem_cons_zero, List.setIfInBounds_toArray, List.set_cons_zero, List.set_cons_succ]
  refine wpAnyH_take (i := 2) (v := ?_) rfl (by kernel_rfl) (by kernel_rfl) (by kernel_rfl) (fun _ _ _ h => h) (Or.inl ⟨by rfl, ?_⟩) hHeld ?_
  rotate_left
  · intro w' hSw; try dsimp only at hSw
    have d0 := (hSw.cell (p := ⟨br, oo, none⟩) hbrW).trans c0
    have d1 := (hSw.cell (p := ⟨br, oo + 1, none⟩) hbrW).trans c1
    have d4 := (hSw.cell (p := ⟨br, oo + 4, none⟩) hbrW).trans c4
    go_simp; try (with_reducible rfl)
  try simp only [Act.put, List.getElem_toArray, List.getElem_cons_succ, List.getElem_cons_zero, List.setIfInBounds_toArray, List.set_cons_zero, List.set_cons_succ]
  refine wpAnyH_take (i := 3) (v := ?_) rfl (by kernel_rfl) (by kernel_rfl) (by kernel_rfl) (fun _ _ _ h => h) (Or.inl ⟨by rfl, ?_⟩) hHeld ?_
  rotate_left
  · intro w' hSw; try dsimp only at hSw
    go_simp; try (with_reducible rfl)
  try simp only [Act.put, List.getElem_toArray, List.getElem_cons_succ, List.getElem_cons_zero, List.setIfInBounds_toArray, List.set_cons_zero, List.set_cons_succ]
  refine wpAnyH_take (i := 4) (v := ?_) rfl (by kernel_rfl) (by kernel_rfl) (by kernel_rfl) (fun _ _ _ h => h) (Or.inl ⟨by rfl, ?_⟩) hHeld ?_
  rotate_left
  · intro w' hSw; try dsimp only at hSw
    go_simp; try (with_reducible rfl)
  try simp only [Act.put, List.getElem_toArray, List.getElem_cons_succ, List.getElem_cons_zero, List.setIfInBounds_toArray, List.set_cons_zero, List.set_cons_succ]
  refine wpAnyH_take (i := 5) (v := ?_) rfl (by kernel_rfl) (by kernel_rfl) (by kernel_rfl) (fun _ _ _ h => h) (Or.inl ⟨by rfl, ?_⟩) hHeld ?_
  rotate_left
  · intro w' hSw; try dsimp only at hSw
    go_simp; try (with_reducible rfl)
  try simp only [Act.put, List.getElem_toArray, List.getElem_cons_succ, List.getElem_cons_zero, List.setIfInBounds_toArray, List.set_cons_zero, List.set_cons_succ]
  refine wpAnyH_take (i := 6) (v := ?_) rfl (by kernel_rfl) (by kernel_rfl) (by kernel_rfl) (fun _ _ _ h => h) (Or.inl ⟨by rfl, ?_⟩) hHeld ?_
  rotate_left
  · intro w' hSw; try dsimp only at hSw
    have d0 := (hSw.cell (p := ⟨br, oo, none⟩) hbrW).trans c0
    have d1 := (hSw.cell (p := ⟨br, oo + 1, none⟩) hbrW).trans c1
    have d4 := (hSw.cell (p := ⟨br, oo + 4, none⟩) hbrW).trans c4
    go_simp; try (with_reducible rfl)
  try simp only [Act.put, List.getElem_toArray, List.getElem_cons_succ, List.getElem_cons_zero, List.setIfInBounds_toArray, List.set_cons_zero, List.set_cons_succ]
  refine wpAnyH_take (i := 7) (v := ?_) rfl (by kernel_rfl) (by kernel_rfl) (by kernel_rfl) (fun _ _ _ h => h) (Or.inl ⟨by rfl, ?_⟩) hHeld ?_
  rotate_left
  · intro w' hSw; try dsimp only at hSw
    go_simp; try (with_reducible rfl)
  try simp only [Act.put, List.getElem_toArray, List.getElem_cons_succ, List.getElem_cons_zero, List.setIfInBounds_toArray, List.set_cons_zero, List.set_cons_succ]
  refine wpAnyH_take (i := 8) (v := ?_) rfl (by kernel_rfl) (by kernel_rfl) (by kernel_rfl) (fun _ _ _ h => h) (Or.inl ⟨by rfl, ?_⟩) hHeld ?_
  rotate_left
  · intro w' hSw; try dsimp only at hSw
    go_simp; try (with_reducible rfl)
  try simp only [Act.put, List.getElem_toArray, List.getElem_cons_succ, List.getElem_cons_zero, List.setIfInBounds_toArray, List.set_cons_zero, List.set_cons_succ]
  refine wpAnyH_take (i := 9) (v := ?_) rfl (by kernel_rfl) (by kernel_rfl) (by kernel_rfl) (fun _ _ _ h => h) (Or.inl ⟨by rfl, ?_⟩) hHeld ?_
  rotate_left
  · intro w' hSw; try dsimp only at hSw
    go_simp; try (with_reducible rfl)
  try simp only [Act.put, List.getElem_toArray, List.getElem_cons_succ, List.getElem_cons_zero, List.setIfInBounds_toArray, List.set_cons_zero, List.set_cons_succ]
  refine wpAnyH_take (i := 10) (v := ?_) rfl (by kernel_rfl) (by kernel_rfl) (by kernel_rfl) (fun _ _ _ h => h) (Or.inl ⟨by rfl, ?_⟩) hHeld ?_
  rotate_left
  · intro w' hSw; try dsimp only at hSw
    have d0 := (hSw.cell (p := ⟨br, oo, none⟩) hbrW).trans c0
    have d1 := (hSw.cell (p := ⟨br, oo + 1, none⟩) hbrW).trans c1
    have d4 := (hSw.cell (p := ⟨br, oo + 4, none⟩) hbrW).trans c4
    go_simp; try (with_reducible rfl)
  try simp only [Act.put, List.getElem_toArray, List.getElem_cons_succ, List.getElem_cons_zero, List.setIfInBounds_toArray, List.set_cons_zero, List.set_cons_succ]
  refine wpAnyH_take (i := 11) (v := ?_) rfl (by kernel_rfl) (by kernel_rfl) (by kernel_rfl) (fun _ _ _ h => h) (Or.inl ⟨by rfl, ?_⟩) hHeld ?_
  rotate_left
  · intro w' hSw; try dsimp only at hSw
    go_simp; try (with_reducible rfl)
  try simp only [Act.put, List.getElem_toArray, List.getElem_cons_succ, List.getElem_cons_zero, List.setIfInBounds_toArray, List.set_cons_zero, List.set_cons_succ]
  refine wpAnyH_take (i := 12) (v := ?_) rfl (by kernel_rfl) (by kernel_rfl) (by kernel_rfl) (fun _ _ _ h => h) (Or.inl ⟨by rfl, ?_⟩) hHeld ?_
  rotate_left
  · intro w' hSw; try dsimp only at hSw
    go_simp; try (with_reducible rfl)
  try simp only [Act.put, List.getElem_toArray, List.getElem_cons_succ, List.getElem_cons_zero, List.setIfInBounds_toArray, List.set_cons_zero, List.set_cons_succ]
  refine wpAnyH_ready (rs := [13]) (by kernel_rfl) (by simp) ?_
  refine AllReadyH.cons rfl (fun K hK => ?_) AllReadyH.nil
  go_simp
  refine hK.out _ _ (bt hHeld (below_alloc _ _)) (fun hHeld => ?_)
  clear hK K
  try simp only [Act.put, List.getElem_toArray, List.getElem_cons_succ, List.getElem_cons_zero, List.setIfInBounds_toArray, List.set_cons_zero, List.set_cons_succ]
  refine wpAnyH_ready (rs := [14]) (by kernel_rfl) (by simp) ?_
  refine AllReadyH.cons rfl (fun K hK => ?_) AllReadyH.nil
  rw [if_pos (by rfl)]
  refine wp_store_blk 42 (.tmp 5) _ rfl W.heap.size 0 [.int .i64 K0, .int .i64 K4, .int .i64 K1, .int .i64 0, .slice none 0 0, .slice none 0 0, .slice none 0 0] rfl rfl (Blk.drew (Blk.new' W 42 #[.int .i64 0, .int .i64 0, .int .i64 0, .int .i64 0, .slice none 0 0, .slice none 0 0, .slice none 0 0])) (by show 7 ≤ 7; decide) (mpSize PV.zero MP.zero) (mpOne PV.zero ⟨K0, K4, K1, 0, [], [], []⟩) ?_
  intro w9 h9 ht9
  refine hK.out _ _ (ht9.below hHeld (Nat.le_refl _)) (fun hHeld => ?_)
  clear hK K
  try simp only [Act.put, List.getElem_toArray, List.getElem_cons_succ, List.getElem_cons_zero, List.setIfInBounds_toArray, List.set_cons_zero, List.set_cons_succ]
  refine wpAnyH_done (by kernel_rfl) ?_ _
  refine NoPanic.normal ?_
  have hp9 : Blk w9 W.heap.size 42 [.int .i64 K0, .int .i64 K4, .int .i64 K1, .int .i64 0, .slice none 0 0, .slice none 0 0, .slice none 0 0] := h9
  have hB9 : Below w.heap.size w w9 := hBW.trans (hHeld.mono hBW.size)
  have r9 := rW.below hHeld rW.lt
  have c29 := (hHeld.cell (p := ⟨br, oo + 2, none⟩) hbrW).trans c2'
  have hne : w.heap.size ≠ W.heap.size := by have := rW.lt; omega
  have hin9 : ∀ X, Below (w.heap.size + 1) w9 X → In X (some ⟨gb, ob, none⟩) 256 c xs := fun X hX => hb.below (hB9.trans (hX.mono (Nat.le_succ _)))
  have hlow : w.heap.size + 1 ≤ W.heap.size := rW.lt
  have hsz9 : w.heap.size ≤ w9.heap.size := hB9.size
  clear h9 ht9 hHeld c0 c1 c2' c4 hBW rW hbrW
  generalize W.heap.size = g at *
  obtain ⟨z0, z1, z2, z3, z4, z5, z6⟩ : _ ∧ _ ∧ _ ∧ _ ∧ _ ∧ _ ∧ _ := Blk.cells7 (V := PV.zero) (P := ⟨K0, K4, K1, 0, [], [], []⟩) hp9
  by_cases hk1 : K0 = 1
  · have bk1 : (K0 == 1) = true := by simpa using hk1
    have E : Hid (RP = readPartP K0 K4 K1 xs (min H2 64)) := by show _ = _; rw [HP.out, if_pos hk1]
    have hmin : ∀ W : World, (Builtin.min_ #[3, 3] 3 #[.int .i64 (H2 : Int), .int .i64 64]).run Try.prog W = .ok (.int .i64 ((min H2 64 : Nat) : Int)) W := fun W => min_int H2 64 W
    have hml : min H2 64 ≤ 64 := Nat.min_le_right _ _
    clear hk1 HP
    generalize min H2 64 = m at *
    generalize hQ : readPartP K0 K4 K1 xs m = Q at *
    go_wp2_with (first
      | (go_at_call 87; refine (readPart_any (w.heap.size + 1) g gb ob c m K0 K4 K1 xs _ hlow hp9 hin9 hml).mono ?_; rw [hQ]; rintro e u1 ⟨rfl, V1, hp1, ho1, hb1⟩; have r1 := r9.below hb1 (Nat.lt_succ_self _); obtain ⟨z0, z1, z2, z3, z4, z5, z6⟩ := hp1.cells7; clear hmin)
      | (guard_target = wpList _ _ _ (Oper.mk _ (Op.store 42 (Operand.tmp 2) _) _ _ _ _ :: _) _ _; refine wpList_store_blk rfl 42 (.tmp 2) (.tmp 46) rfl _ _ (PV.cells V1 Q) rfl rfl r1 (by show 7 ≤ 7; decide) (mpSize V1 Q) (mpOne V1 Q) ?_; intro u9 h9 ht9))
    have h9' : Blk u9 w.heap.size 42 (V1.cells Q) := h9
    refine ret_mp Try.results69 rfl h9' rfl ?_
    rw [E.out]
    exact ⟨V1, rfl, (ho1.low hsz9).turned ht9 r1 (by decide) (by decide) (by decide), ht9.below (hB9.trans (hb1.mono (Nat.le_succ _))) (Nat.le_refl _)⟩
  · have bk1 : (K0 == 1) = false := by simpa using hk1
    by_cases hk2 : K0 = 2
    · have bk2 : (K0 == 2) = true := by simpa using hk2
      have E : Hid (RP = readRecsP K0 K4 K1 xs (min H2 24)) := by show _ = _; rw [HP.out, if_neg hk1, if_pos hk2]
      clear hk2
      have hmin : ∀ W : World, (Builtin.min_ #[3, 3] 3 #[.int .i64 (H2 : Int), .int .i64 24]).run Try.prog W = .ok (.int .i64 ((min H2 24 : Nat) : Int)) W := fun W => min_int H2 24 W
      have hml : min H2 24 ≤ 24 := Nat.min_le_right _ _
      clear hk1 HP
      generalize min H2 24 = m at *
      generalize hQ : readRecsP K0 K4 K1 xs m = Q at *
      go_wp2_with (first
        | (go_at_call 88; refine (readRecs_any (w.heap.size + 1) g gb ob c m K0 K4 K1 xs _ hlow hp9 hin9 hml).mono ?_; rw [hQ]; rintro e u1 ⟨rfl, V1, hp1, ho1, hb1⟩; have r1 := r9.below hb1 (Nat.lt_succ_self _); obtain ⟨z0, z1, z2, z3, z4, z5, z6⟩ := hp1.cells7; clear hmin)
        | (guard_target = wpList _ _ _ (Oper.mk _ (Op.store 42 (Operand.tmp 2) _) _ _ _ _ :: _) _ _; refine wpList_store_blk rfl 42 (.tmp 2) (.tmp 46) rfl _ _ (PV.cells V1 Q) rfl rfl r1 (by show 7 ≤ 7; decide) (mpSize V1 Q) (mpOne V1 Q) ?_; intro u9 h9 ht9))
      have h9' : Blk u9 w.heap.size 42 (V1.cells Q) := h9
      refine ret_mp Try.results69 rfl h9' rfl ?_
      rw [E.out]
      exact ⟨V1, rfl, (ho1.low hsz9).turned ht9 r1 (by decide) (by decide) (by decide), ht9.below (hB9.trans (hb1.mono (Nat.le_succ _))) (Nat.le_refl _)⟩
    · have bk2 : (K0 == 2) = false := by simpa using hk2
      have E : Hid (RP = ⟨K0, K4, K1, 0, [], [], []⟩) := by show _ = _; rw [HP.out, if_neg hk1, if_neg hk2]
      clear hk1 hk2 HP
      go_wp2_with (guard_target = wpList _ _ _ (Oper.mk _ (Op.store 42 (Operand.tmp 2) _) _ _ _ _ :: _) _ _; refine wpList_store_blk rfl 42 (.tmp 2) (.tmp 46) rfl _ _ (PV.cells PV.zero ⟨K0, K4, K1, 0, [], [], []⟩) rfl rfl r9 (by show 7 ≤ 7; decide) (mpSize PV.zero ⟨K0, K4, K1, 0, [], [], []⟩) (mpOne PV.zero ⟨K0, K4, K1, 0, [], [], []⟩) ?_; intro u9 h9 ht9)
      have h9' : Blk u9 w.heap.size 42 (PV.zero.cells ⟨K0, K4, K1, 0, [], [], []⟩) := h9
      refine ret_mp Try.results69 rfl h9' rfl ?_
      rw [E.out]
      exact ⟨PV.zero, rfl, ⟨⟨rfl, .inl ⟨rfl, rfl⟩⟩, ⟨rfl, .inl ⟨rfl, rfl⟩⟩, ⟨rfl, .inl ⟨rfl, rfl⟩⟩, Nat.zero_le _, Nat.zero_le _, Nat.zero_le _⟩, ht9.below hB9 (Nat.le_refl _)⟩
end Go.Proofs.Ytpikaagdiafieaa
