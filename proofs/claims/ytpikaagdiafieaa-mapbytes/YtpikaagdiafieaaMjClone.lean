/-
  What slices.Clone and copied answer; states as results.
-/
import Derived.Test.YtpikaagdiafieaaMjBlocks
import Derived.Lib.SlBytesConst
namespace Go.Proofs.Ytpikaagdiafieaa
open Go.RowKit
theorem cloneB_any (p : Option Addr) (n c : Nat) (xs : List Bool) (w : World) (hx : InB w p n c xs) (hn : n ≤ 1000000000000) :
    Calls Try.prog 61 #[.slice p n c] w fun e w' => ∃ v, e = .returned v ∧ (∃ p' c', v = .slice p' n c') ∧ w'.ownsRow w.heap.size 4 1 v n (valsB xs) ∧ Below w.heap.size w w' := by
  have hroom := hx.room
  have HX : Hid (xs.length = n) := hx.len
  obtain ⟨i0, hi, hz0, hz1, hz2⟩ := info_parts info4
  have hq := fun (w : World) => Lib.run_eql_slice_nil (P := Try.prog) w 22 4 p n c 0 0 Try.underlying22
  cases p with
  | none =>
    have h1 := hx.nil rfl
    have h2 := hx.cap
    have h3 : n = 0 := by omega
    subst h1
    subst h3
    have h4 : xs = [] := List.eq_nil_of_length_eq_zero hx.len
    subst h4
    go_enter Try.func61, Try.ntmps61
    go_wp2
    go_ret
    exact ⟨_, rfl, ⟨_, _, rfl⟩, ⟨rfl, .inl ⟨rfl, rfl⟩⟩, Below.refl _ _⟩
  | some a =>
    have ho := World.ownsRow_lit (e := 4) (size := 1) (base := w.heap.size) w #[] 0 (Nat.le_refl _) (by unfold maxLen; omega) (by simp)
    have HO : Hid ((w.alloc (.cells #[] 4)).ownsRow w.heap.size 4 1 (.slice (some ⟨w.heap.size, 0, none⟩) 0 0) 0 []) := ho
    clear ho
    go_enter Try.func61, Try.ntmps61
    go_wp2_with (at_builtin; refine wpList_append_own _ rfl (.tmp 5) (.tmp 6) 22 rfl w.heap.size 4 i0 (.bool false) 1 1 Try.underlying22 hi hz0 hz1 hz2 rfl (by decide) (.slice (some ⟨w.heap.size, 0, none⟩) 0 0) 0 [] rfl HO.out a n c (valsB xs) rfl (by rw [valsB_length, HX.out, Nat.mul_one]) ((hx.below (below_alloc _ _)).cells rfl) (valsB_one xs) (by unfold maxLen; omega) (by omega) (by simp) ?_; intro v1 w1 hown1 hgrow1 _)
    go_ret
    rw [List.nil_append, Nat.zero_add] at hown1
    obtain ⟨p', c', hv, _⟩ := in_of_ownsB hown1 hroom
    exact ⟨v1, rfl, ⟨p', c', hv⟩, hown1, (below_alloc w _).grown hgrow1 (by simp) (fun k hk => by simp [Value.ownBlock] at hk; omega)⟩
theorem cloneL_any (p : Option Addr) (n c : Nat) (xs : List Int) (w : World) (hx : InI w p n c xs) (hn : n ≤ 1000000000000) :
    Calls Try.prog 62 #[.slice p n c] w fun e w' => ∃ v, e = .returned v ∧ (∃ p' c', v = .slice p' n c') ∧ w'.ownsRow w.heap.size 2 1 v n (valsI xs) ∧ Below w.heap.size w w' := by
  have hroom := hx.room
  have HX : Hid (xs.length = n) := hx.len
  obtain ⟨i0, hi, hz0, hz1, hz2⟩ := info_parts info2
  have hq := fun (w : World) => Lib.run_eql_slice_nil (P := Try.prog) w 23 2 p n c 0 0 Try.underlying23
  cases p with
  | none =>
    have h1 := hx.nil rfl
    have h2 := hx.cap
    have h3 : n = 0 := by omega
    subst h1
    subst h3
    have h4 : xs = [] := List.eq_nil_of_length_eq_zero hx.len
    subst h4
    go_enter Try.func62, Try.ntmps62
    go_wp2
    go_ret
    exact ⟨_, rfl, ⟨_, _, rfl⟩, ⟨rfl, .inl ⟨rfl, rfl⟩⟩, Below.refl _ _⟩
  | some a =>
    have ho := World.ownsRow_lit (e := 2) (size := 1) (base := w.heap.size) w #[] 0 (Nat.le_refl _) (by unfold maxLen; omega) (by simp)
    have HO : Hid ((w.alloc (.cells #[] 2)).ownsRow w.heap.size 2 1 (.slice (some ⟨w.heap.size, 0, none⟩) 0 0) 0 []) := ho
    clear ho
    go_enter Try.func62, Try.ntmps62
    go_wp2_with (at_builtin; refine wpList_append_own _ rfl (.tmp 5) (.tmp 6) 23 rfl w.heap.size 2 i0 (.int .i64 0) 1 8 Try.underlying23 hi hz0 hz1 hz2 rfl (by decide) (.slice (some ⟨w.heap.size, 0, none⟩) 0 0) 0 [] rfl HO.out a n c (valsI xs) rfl (by rw [valsI_length, HX.out, Nat.mul_one]) ((hx.below (below_alloc _ _)).cells rfl) (valsI_one xs) (by unfold maxLen; omega) (by omega) (by simp) ?_; intro v1 w1 hown1 hgrow1 _)
    go_ret
    rw [List.nil_append, Nat.zero_add] at hown1
    obtain ⟨p', c', hv, _⟩ := in_of_ownsI hown1 hroom
    exact ⟨v1, rfl, ⟨p', c', hv⟩, hown1, (below_alloc w _).grown hgrow1 (by simp) (fun k hk => by simp [Value.ownBlock] at hk; omega)⟩
theorem msSize (V : SV) (s : MS) : (Try.prog.info? 25).map (·.size) = some (V.cells s).length := by show _ = some 3; kernel_rfl
theorem msOne (V : SV) (s : MS) : ∀ v ∈ V.cells s, v.oneCell' = true := by simp [SV.cells, Value.oneCell']
/-- A function whose one result is a state. -/
theorem ret_ms {fn : Func} {p : Tmp} (h : fn.results = #[.cell p 25]) {R : Ending → World → Prop} {a : Act} {w : World} {g : Nat} {t : TypeId} {V : SV} {s : MS} (hp : a.tmps.getD p undef = .pointer (some ⟨g, 0, none⟩))
    (hb : Blk w g t (V.cells s)) (hd : a.defers = []) (hR : R (.returned (V.val s)) w) : bodyPost Try.prog fn R .ret a w :=
  bodyPost_ret (results_cell_row h _ _ g t _ (0, 0) _ hp hb Try.underlying25 rfl (by kernel_rfl)) hd hR
/-- A function with a state and an error for its results. -/
theorem ret_msE {fn : Func} {p u : Tmp} (h : fn.results = #[.cell p 25, .tmp u]) {R : Ending → World → Prop} {a : Act} {w : World} {g : Nat} {t : TypeId} {V : SV} {s : MS} {v : Value} (hp : a.tmps.getD p undef = .pointer (some ⟨g, 0, none⟩))
    (hb : Blk w g t (V.cells s)) (hd : a.defers = []) (hu : a.tmps.getD u undef = v) (hR : R (.returned (.tuple #[V.val s, v])) w) : bodyPost Try.prog fn R .ret a w := by
  refine bodyPost_ret (v := .tuple #[V.val s, v]) ?_ hd hR
  rw [results_cell_tmp h, hp, hu]
  have := run_loadVar_mid w g 0 25 (V.cells s) _ (hb.range 0 3 _ rfl) Try.underlying25 rfl (by kernel_rfl)
  simp only [asAddr, Sem.run_pure, Result.andThen_ok, this]
  rfl
/-- A state's box at the first new block, a state that is answered at the second. -/
structure PS (w : World) (V : SV) (s : MS) (W : World) : Prop where
  bel : Below w.heap.size w W
  box : Blk W w.heap.size 25 (V.cells s)
  res : ∃ cs : List Value, cs.length = 3 ∧ Blk W (w.heap.size + 1) 25 cs
theorem PS.start (w : World) (V : SV) (s : MS) (x y z : Value) : PS w V s ((w.alloc (.cells #[.slice V.p V.n V.c, .slice V.q V.m V.d, .int .i64 s.seq] 25)).alloc (.cells #[x, y, z] 25)) := by
  refine ⟨bt (below_alloc w _) (below_alloc _ _), (Blk.new' w 25 #[.slice V.p V.n V.c, .slice V.q V.m V.d, .int .i64 s.seq]).alloc _, [x, y, z], rfl, ?_⟩
  have := Blk.new' (w.alloc (.cells #[.slice V.p V.n V.c, .slice V.q V.m V.d, .int .i64 s.seq] 25)) 25 #[x, y, z]
  rwa [World.size_alloc] at this
theorem PS.drew {w W : World} {V : SV} {s : MS} (h : PS w V s W) : PS w V s W.drew := ⟨h.bel.drew, h.box.drew, h.res⟩
theorem PS.next {w W W' : World} {V : SV} {s : MS} (h : PS w V s W) (hb : Below W.heap.size W W') : PS w V s W' := by
  obtain ⟨cs, hl, hr⟩ := h.res
  exact ⟨h.bel.trans (hb.mono h.bel.size), h.box.kept hb, cs, hl, hr.kept hb⟩
theorem PS.stored {w W W' : World} {V : SV} {s : MS} (h : PS w V s W) (ht : Turned W W' (w.heap.size + 1)) {cs : List Value} (hb : Blk W' (w.heap.size + 1) 25 cs) (hl : cs.length = 3) : PS w V s W' :=
  ⟨ht.below h.bel (by omega), h.box.turned ht (by omega), cs, hl, hb⟩
set_option linter.unusedSimpArgs false in
set_option maxRecDepth 100000 in
set_option maxHeartbeats 1000000 in
theorem copied_any (V : SV) (s : MS) (w : World) (hs : InS w V s) (hn : V.n ≤ 1000000000000) (hm : V.m ≤ 1000000000000) :
    Calls Try.prog 46 #[V.val s] w fun e w' => ∃ V', e = .returned (SV.val V' s) ∧ V'.n = V.n ∧ V'.m = V.m ∧ OwnS w.heap.size w' V' s ∧ Below w.heap.size w w' := by
  have hS := PS.start w V s (.slice none 0 0) (.slice none 0 0) (.int .i64 0)
  obtain ⟨p, n, c, q, m, d⟩ := V
  obtain ⟨hB, hW⟩ := hs
  dsimp only [SV.val] at *
  go_enter Try.func46, Try.ntmps46
  go_wp2_with fail
  refine wp_region_noPanic ?_
  refine wp_region_held_drew (S := PS w ⟨p, n, c, q, m, d⟩ s) (by kernel_rfl) hS.drew (fun hHeld => ?_)
  refine wpAnyH_take (i := 0) (v := ?_) rfl (by kernel_rfl) (by kernel_rfl) (by kernel_rfl) (fun _ _ _ h => h) (Or.inl ⟨by rfl, ?_⟩) hHeld ?_
  rotate_left
  · intro w' hSw; try dsimp only at hSw
    go_simp; try (with_reducible rfl)
  try simp only [Act.put, List.getElem_toArray, List.getElem_cons_succ, List.getElem_cons_zero, List.setIfInBounds_toArray, List.set_cons_zero, List.set_cons_succ]
  refine wpAnyH_take (i := 1) (v := ?_) rfl (by kernel_rfl) (by kernel_rfl) (by kernel_rfl) (fun _ _ _ h => h) (Or.inl ⟨by rfl, ?_⟩) hHeld ?_
  rotate_left
  · intro w' hSw; try dsimp only at hSw
    have c0 := hSw.box.cell' (i := 0) rfl
    have c1 := hSw.box.cell' (i := 1) rfl
    have c2 := hSw.box.cell' (i := 2) rfl
    go_simp; try (with_reducible rfl)
  try simp only [Act.put, List.getElem_toArray, List.getElem_cons_succ, List.getElem_cons_zero, List.setIfInBounds_toArray, List.set_cons_zero, List.set_cons_succ]
  refine wpAnyH_take (i := 3) (v := ?_) rfl (by kernel_rfl) (by kernel_rfl) (by kernel_rfl) (fun _ _ _ h => h) (Or.inl ⟨by rfl, ?_⟩) hHeld ?_
  rotate_left
  · intro w' hSw; try dsimp only at hSw
    go_simp; try (with_reducible rfl)
  try simp only [Act.put, List.getElem_toArray, List.getElem_cons_succ, List.getElem_cons_zero, List.setIfInBounds_toArray, List.set_cons_zero, List.set_cons_succ]
  refine wpAnyH_take (i := 4) (v := ?_) rfl (by kernel_rfl) (by kernel_rfl) (by kernel_rfl) (fun _ _ _ h => h) (Or.inl ⟨by rfl, ?_⟩) hHeld ?_
  rotate_left
  · intro w' hSw; try dsimp only at hSw
    have c0 := hSw.box.cell' (i := 0) rfl
    have c1 := hSw.box.cell' (i := 1) rfl
    have c2 := hSw.box.cell' (i := 2) rfl
    go_simp; try (with_reducible rfl)
  try simp only [Act.put, List.getElem_toArray, List.getElem_cons_succ, List.getElem_cons_zero, List.setIfInBounds_toArray, List.set_cons_zero, List.set_cons_succ]
  refine wpAnyH_take (i := 6) (v := ?_) rfl (by kernel_rfl) (by kernel_rfl) (by kernel_rfl) (fun _ _ _ h => h) (Or.inl ⟨by rfl, ?_⟩) hHeld ?_
  rotate_left
  · intro w' hSw; try dsimp only at hSw
    go_simp; try (with_reducible rfl)
  try simp only [Act.put, List.getElem_toArray, List.getElem_cons_succ, List.getElem_cons_zero, List.setIfInBounds_toArray, List.set_cons_zero, List.set_cons_succ]
  refine wpAnyH_take (i := 7) (v := ?_) rfl (by kernel_rfl) (by kernel_rfl) (by kernel_rfl) (fun _ _ _ h => h) (Or.inl ⟨by rfl, ?_⟩) hHeld ?_
  rotate_left
  · intro w' hSw; try dsimp only at hSw
    have c0 := hSw.box.cell' (i := 0) rfl
    have c1 := hSw.box.cell' (i := 1) rfl
    have c2 := hSw.box.cell' (i := 2) rfl
    go_simp; try (with_reducible rfl)
  try simp only [Act.put, List.getElem_toArray, List.getElem_cons_succ, List.getElem_cons_zero, List.setIfInBounds_toArray, List.set_cons_zero, List.set_cons_succ]
  obtain ⟨cs0, hcl0, hres0⟩ := hHeld.res
  have hlt0 := hres0.lt
  have hsz0 := hHeld.bel.size
  refine wpAnyH_ready (rs := [2]) (by kernel_rfl) (by simp) ?_
  refine AllReadyH.cons rfl (fun K hK => ?_) AllReadyH.nil
  go_simp
  refine (cloneB_any p n c s.bad _ (hB.below hHeld.bel) hn).mono ?_
  rintro e w1 ⟨v1, rfl, ⟨p1, c1, rfl⟩, ho1, hb1⟩
  try go_wp2_with fail
  refine hK.out _ _ (hHeld.next hb1) (fun hHeld => ?_)
  clear hK K
  try simp only [Act.put, List.getElem_toArray, List.getElem_cons_succ, List.getElem_cons_zero, List.setIfInBounds_toArray, List.set_cons_zero, List.set_cons_succ]
  refine wpAnyH_ready (rs := [5]) (by kernel_rfl) (by simp) ?_
  refine AllReadyH.cons rfl (fun K hK => ?_) AllReadyH.nil
  go_simp
  refine (cloneL_any q m d s.wear _ (hW.below hHeld.bel) hm).mono ?_
  rintro e w2 ⟨v2, rfl, ⟨q1, d1, rfl⟩, ho2, hb2⟩
  try go_wp2_with fail
  refine hK.out _ _ (hHeld.next hb2) (fun hHeld => ?_)
  clear hK K
  try simp only [Act.put, List.getElem_toArray, List.getElem_cons_succ, List.getElem_cons_zero, List.setIfInBounds_toArray, List.set_cons_zero, List.set_cons_succ]
  have hos : OwnS w.heap.size w2 ⟨p1, n, c1, q1, m, d1⟩ s := ⟨owns_mono (owns_below ho1 hb2) hsz0, owns_mono ho2 (Nat.le_trans hsz0 hb1.size), hB.room, hW.room⟩
  refine wpAnyH_take (i := 8) (v := ?_) rfl (by kernel_rfl) (by kernel_rfl) (by kernel_rfl) (fun _ _ _ h => h) (Or.inl ⟨by rfl, ?_⟩) hHeld ?_
  rotate_left
  · intro w' hSw; try dsimp only at hSw
    go_simp; try (with_reducible rfl)
  try simp only [Act.put, List.getElem_toArray, List.getElem_cons_succ, List.getElem_cons_zero, List.setIfInBounds_toArray, List.set_cons_zero, List.set_cons_succ]
  obtain ⟨cs, hcl, hres⟩ := hHeld.res
  refine wpAnyH_ready (rs := [9]) (by kernel_rfl) (by simp) ?_
  refine AllReadyH.cons rfl (fun K hK => ?_) AllReadyH.nil
  rw [if_pos (by rfl)]
  refine wp_store_blk 25 (.tmp 2) _ rfl _ _ [.slice p1 n c1, .slice q1 m d1, .int .i64 s.seq] rfl rfl hres (by rw [hcl]; exact Nat.le_refl _) (msSize ⟨p1, n, c1, q1, m, d1⟩ s) (msOne ⟨p1, n, c1, q1, m, d1⟩ s) ?_
  intro w9 h9 ht9
  rw [whole_row (by rw [hcl]; rfl)] at h9
  replace h9 : Blk w9 (w.heap.size + 1) 25 (SV.cells ⟨p1, n, c1, q1, m, d1⟩ s) := h9
  refine hK.out _ _ (hHeld.stored ht9 h9 rfl) (fun hHeld => ?_)
  clear hK K
  try simp only [Act.put, List.getElem_toArray, List.getElem_cons_succ, List.getElem_cons_zero, List.setIfInBounds_toArray, List.set_cons_zero, List.set_cons_succ]
  refine wpAnyH_done (by kernel_rfl) ?_ _
  refine NoPanic.normal ?_
  go_wp2_with fail
  have hf1 := owns_blk_ne (by decide) hos.b hres
  have hf2 := owns_blk_ne (by decide) hos.v hres
  exact ret_ms Try.results46 rfl h9 rfl ⟨⟨p1, n, c1, q1, m, d1⟩, rfl, rfl, rfl, hos.turned ht9 hf1 hf2, hHeld.bel⟩
end Go.Proofs.Ytpikaagdiafieaa
