/-
  What pool's pick answers.
-/
import Derived.Test.YtigkfmdhmonjlaaPoAll
namespace Go.Proofs.Ytigkfmdhmonjlaa
open Go.RowKit Go.Shelf
attribute [local go_sem] Oper.semAt_some
theorem blk_own {β : Type} (B : Nat) (t : TypeId) (f : β → List Value) : Own (fun s W => Blk W B t (f s)) := fun s X Y row hs hg hrow =>
  (hg.block B hs.lt (fun e' => by obtain ⟨o, ho, hc⟩ := hrow B e'.symm; rw [show X.heap[B]? = _ from hs] at ho; cases ho; cases hc)).trans hs
/-- One step of a choice. -/
def pickStep {N : Nat} (ah : Int → Int → Bool) (W : List Int) (o : Option (IdxT N)) (k : IdxT N) : Option (IdxT N) :=
  match o with
  | none => some k
  | some b => if ah (eI W k.1) (eI W b.1) then some k else some b
/-- Which block is chosen. -/
def pickK {N : Nat} (ah : Int → Int → Bool) (W : List Int) (ks : List (IdxT N)) : Option (IdxT N) := ks.foldl (pickStep ah W) none
theorem pickK_snoc {N : Nat} (ah : Int → Int → Bool) (W : List Int) (pre : List (IdxT N)) (x : IdxT N) : pickK ah W (pre ++ [x]) = pickStep ah W (pickK ah W pre) x := by simp [pickK]
def bestN {N : Nat} : Option (IdxT N) → Int
  | none => 0
  | some b => (b.1 : Int)
def isLess (a b : Int) : Bool := decide (a < b)
def isMore (a b : Int) : Bool := decide (b < a)
theorem KpK.setCell {Bs : Nat} {p : Option Addr} {A B : World} (h : KpK Bs p A B) {g : Nat} (v : Value) (h1 : g ≠ Bs) (h2 : ∀ a, p = some a → g ≠ a.block) : KpK Bs p A (B.setCell ⟨g, 0, none⟩ v) :=
  ⟨⟨(heap_setCell_other _ _ _ _ (fun e => h1 e.symm)).trans h.1.1, by simpa [World.setCell] using h.1.2⟩, fun a e => (heap_setCell_other _ _ _ _ (fun e' => h2 a e e'.symm)).trans (h.2 a e)⟩
set_option linter.unusedSimpArgs false in
set_option maxRecDepth 100000 in
set_option maxHeartbeats 4000000 in
theorem pickLess_in (nf : Nat) (hnf : 4 ≤ nf) (p q : Option Addr) (n c m d : Nat) (R W : List Int) (role : Int) (w : World) (hR : InI w p n c R) (hW : InI w q m d W) :
    CallsIn Fence.wide nf Try.prog 51 #[.agg #[.slice p n c, .slice q m d], .int .i64 role, .func (.func 52) #[] #[]] w fun e w' => e = .returned (.tuple #[.int .i64 (bestN (pickK isLess W (allK R W role))), .bool (pickK isLess W (allK R W role)).isSome]) ∧ Below w.heap.size w w' := by
  have h1 : 1 ≤ nf := by omega
  have hall := fun W' (h1 : InI W' p n c R) (h2 : InI W' q m d W) => all_any p q n c m d R W role W' h1 h2
  have hmn : min R.length W.length ≤ m := by rw [hW.len]; omega
  generalize allK R W role = ks at *
  generalize min R.length W.length = N at *
  have HLR : Hid (R.length = n) := hR.len
  have HLW : Hid (W.length = m) := hW.len
  have hb0 : Below w.heap.size w ((((w.alloc (.cells #[.slice p n c, .slice q m d] 25)).alloc (.cells #[.func (.func 52) #[] #[]] 71)).alloc (.cells #[.int .i64 0] 3)).alloc (.cells #[.bool false] 4)) := bt (bt (bt (below_alloc w _) (below_alloc _ _)) (below_alloc _ _)) (below_alloc _ _)
  have b3 := (((Blk.new' w 25 #[.slice p n c, .slice q m d]).alloc (.cells #[.func (.func 52) #[] #[]] 71)).alloc (.cells #[.int .i64 0] 3)).alloc (.cells #[.bool false] 4)
  have b5 := ((Boxed.new (w.alloc (.cells #[.slice p n c, .slice q m d] 25)) 71 (.func (.func 52) #[] #[])).alloc (.cells #[.int .i64 0] 3)).alloc (.cells #[.bool false] 4)
  have b8 := (Boxed.new ((w.alloc (.cells #[.slice p n c, .slice q m d] 25)).alloc (.cells #[.func (.func 52) #[] #[]] 71)) 3 (.int .i64 0)).alloc (.cells #[.bool false] 4)
  have b9 := Boxed.new (((w.alloc (.cells #[.slice p n c, .slice q m d] 25)).alloc (.cells #[.func (.func 52) #[] #[]] 71)).alloc (.cells #[.int .i64 0] 3)) 4 (.bool false)
  simp only [World.size_alloc] at b5 b8 b9
  refine callsIn_of_wp_marks Try.func51 rfl trivial ?_ rfl
  simp only [Try.ntmps51, List.size_toArray, List.length_cons, List.length_nil, Nat.reduceAdd, Nat.reduceSub, Array.replicate_succ, Array.replicate_zero, List.push_toArray, List.append_toArray, List.nil_append, List.cons_append]
  gi_wp2_with (refine ⟨trivial, ?_⟩; gi_at_call 37; refine (callsIn_wide.2 (hall _ (hR.below hb0) (hW.below hb0))).mono ?_; rintro e w1 ⟨Bs, p1, c1, rfl, hBs, hbs, hin, hne, hb1⟩)
  have hs0 : w.heap.size + 4 ≤ ((((w.alloc (.cells #[.slice p n c, .slice q m d] 25)).alloc (.cells #[.func (.func 52) #[] #[]] 71)).alloc (.cells #[.int .i64 0] 3)).alloc (.cells #[.bool false] 4)).heap.size := by simp only [World.size_alloc]; omega
  have hB1 := bt hb0 hb1
  replace b3 := b3.kept hb1
  replace b5 : Boxed w1 (w.heap.size + 1) 71 (.func (.func 52) #[] #[]) := (hb1.block _ b5.lt).trans b5
  replace b8 : Boxed w1 (w.heap.size + 2) 3 (.int .i64 0) := (hb1.block _ b8.lt).trans b8
  replace b9 : Boxed w1 (w.heap.size + 3) 4 (.bool false) := (hb1.block _ b9.lt).trans b9
  have hlow : w.heap.size + 4 ≤ Bs := Nat.le_trans hs0 hBs
  have hlow2 : ∀ a, p1 = some a → w.heap.size + 4 ≤ a.block := fun a e => Nat.le_trans hs0 (hne a e).1
  have hlow3 : ∀ a, p1 = some a → a.block < w1.heap.size := fun a e => (hne a e).2.2
  have hltb := hbs.lt
  have hcb := hbs.cell' (i := 0) rfl
  clear hb0 hb1 hs0 hBs hne hbs
  rw [valsK_length] at hcb hin
  refine wpIn_rangeFunc_ownF rfl h1 (gf := 61) (lb := #[.pointer (some ⟨Bs, 0, none⟩)]) rfl trivial (enters_of Try.func61 (by kernel_rfl) rfl)
    (values_stops Fence.wide (nf - 1) trivial rfl (by omega) Bs c1 p1 ks w1 hltb hcb hin) (fun h k => h.trans k) (fun W' l o o' hl _ _ _ => ⟨⟨World.putObj_heap_other (by omega), by simp [World.putObj]⟩, fun a e => World.putObj_heap_other (by have := hlow3 a e; omega)⟩) (Below.refl _ _) (fun _ => rfl)
    (fun pre W' => Boxed W' (w.heap.size + 2) 3 (.int .i64 (bestN (pickK isLess W pre))) ∧ Boxed W' (w.heap.size + 3) 4 (.bool (pickK isLess W pre).isSome) ∧ Blk W' w.heap.size 25 [.slice p n c, .slice q m d] ∧ Boxed W' (w.heap.size + 1) 71 (.func (.func 52) #[] #[]) ∧ Below w.heap.size w W')
    (fun _ _ _ => False)
    (OwnFrom.and (Own.from (boxed_own (w.heap.size + 2) 3 (fun pre : List (IdxT N) => Value.int .i64 (bestN (pickK isLess W pre)))) _) (OwnFrom.and (Own.from (boxed_own (w.heap.size + 3) 4 (fun pre : List (IdxT N) => Value.bool (pickK isLess W pre).isSome)) _)
      (OwnFrom.and (Own.from (blk_own w.heap.size 25 (fun _ : List (IdxT N) => [.slice p n c, .slice q m d])) _) (OwnFrom.and (Own.from (boxed_own (w.heap.size + 1) 71 (fun _ : List (IdxT N) => .func (.func 52) #[] #[])) _) (ownFrom_below (Nat.le_refl _) (by have := hB1.size; omega))))))
    (fun _ _ _ _ _ hs _ _ => hs)
    ⟨b8, b9, b3, b5, hB1⟩
    (fun x => { tmps := #[.agg #[.slice p n c, .slice q m d], .int .i64 role, .func (.func 52) #[] #[], .pointer (some ⟨w.heap.size, 0, none⟩), undef, .pointer (some ⟨w.heap.size + 1, 0, none⟩), .int .i64 0, .bool false, .pointer (some ⟨w.heap.size + 2, 0, none⟩), .pointer (some ⟨w.heap.size + 3, 0, none⟩), .int .i64 (x.1 : Int), .agg #[.slice p n c, .slice q m d], .int .i64 role, .func (.func 61) #[] #[.pointer (some ⟨Bs, 0, none⟩)], .int .i64 (x.1 : Int), undef, undef, undef, undef, undef, undef, undef, undef, undef, undef, undef, undef, undef, undef, undef, undef, undef, undef, undef], defers := [] })
    ?assign ?body ?done ?stop
  case assign =>
    intro l x W' K hK
    dsimp only [encK]
    gi_wp2
    exact hK
  case done =>
    rintro D ys W' hD rfl ⟨h8, h9, h3, h5, hB⟩ hK
    have g8 := h8.cell
    have g9 := h9.cell
    gi_wp2
    refine wpIn_wide.2 ?_
    refine wp_region_noPanic ?_
    refine wp_region_held_drew (S := fun X => X.cell? ⟨w.heap.size + 2, 0, none⟩ = some (.int .i64 (bestN (pickK isLess W ys))) ∧ X.cell? ⟨w.heap.size + 3, 0, none⟩ = some (.bool (pickK isLess W ys).isSome)) (by kernel_rfl) ⟨g8, g9⟩ (fun hHeld => ?_)
    refine wpAnyH_take (i := 0) (v := ?_) rfl (by kernel_rfl) (by kernel_rfl) (by kernel_rfl) (fun _ _ _ h => h) (Or.inl ⟨by rfl, ?_⟩) hHeld ?_
    rotate_left
    · intro w' hSw; try dsimp only at hSw
      go_simp; try (with_reducible rfl)
    try simp only [Act.put, List.getElem_toArray, List.getElem_cons_succ, List.getElem_cons_zero, List.setIfInBounds_toArray, List.set_cons_zero, List.set_cons_succ]
    refine wpAnyH_take (i := 1) (v := ?_) rfl (by kernel_rfl) (by kernel_rfl) (by kernel_rfl) (fun _ _ _ h => h) (Or.inl ⟨by rfl, ?_⟩) hHeld ?_
    rotate_left
    · intro w' hSw; try dsimp only at hSw
      go_simp; try (with_reducible rfl)
    try simp only [Act.put, List.getElem_toArray, List.getElem_cons_succ, List.getElem_cons_zero, List.setIfInBounds_toArray, List.set_cons_zero, List.set_cons_succ]
    refine wpAnyH_take (i := 2) (v := ?_) rfl (by kernel_rfl) (by kernel_rfl) (by kernel_rfl) (fun _ _ _ h => h) (Or.inl ⟨by rfl, ?_⟩) hHeld ?_
    rotate_left
    · intro w' hSw; try dsimp only at hSw
      go_simp; try (with_reducible rfl)
    try simp only [Act.put, List.getElem_toArray, List.getElem_cons_succ, List.getElem_cons_zero, List.setIfInBounds_toArray, List.set_cons_zero, List.set_cons_succ]
    refine wpAnyH_take (i := 3) (v := ?_) rfl (by kernel_rfl) (by kernel_rfl) (by kernel_rfl) (fun _ _ _ h => h) (Or.inl ⟨by rfl, ?_⟩) hHeld ?_
    rotate_left
    · intro w' hSw; try dsimp only at hSw
      go_simp; try (with_reducible rfl)
    try simp only [Act.put, List.getElem_toArray, List.getElem_cons_succ, List.getElem_cons_zero, List.setIfInBounds_toArray, List.set_cons_zero, List.set_cons_succ]
    refine wpAnyH_done (by kernel_rfl) ?_ _
    refine NoPanic.normal ?_
    gi_wp2
    refine ⟨by simp, .inl ⟨_, _, rfl, run_takeDeferred hK, ?_⟩⟩
    have hs1 := hB1.size
    have hbD : Below w.heap.size W'.drew (W'.drew.putObj D (.deferred none)) := belowK_b (w := w) (Nat.le_refl _) W'.drew D _ _ (by omega) hK rfl rfl
    exact ⟨_, results_tmp2 Try.results51 _ _ _, rfl, hB.drew.trans hbD⟩
  case stop =>
    rintro D c pre W' _ _ h _
    exact h.elim
  case body =>
    rintro l pre x W' ⟨h8, h9, h3, h5, hB⟩ hlen
    have g8 := h8.cell
    have g9 := h9.cell
    have g5 := h5.cell
    have f8 := h8.frozen
    have f9 := h9.frozen
    have g3 := h3.cell' (i := 1) rfl
    have hxm : x.1 < m := Nat.lt_of_lt_of_le x.2 hmn
    obtain ⟨bq, oq, rfl, hltq, hcq⟩ := (hW.below hB).at' (by omega)
    have gx := hcq x.1 hxm
    have hx1 : (x.1 : Int) < (m : Int) := by omega
    have HP : Hid (pickK isLess W (pre ++ [x]) = pickStep isLess W (pickK isLess W pre) x) := pickK_snoc _ _ _ _
    have hk8 : w.heap.size + 2 ≠ Bs := by omega
    have hk9 : w.heap.size + 3 ≠ Bs := by omega
    have hj8 : ∀ a, p1 = some a → w.heap.size + 2 ≠ a.block := fun a e => by have := hlow2 a e; omega
    have hj9 : ∀ a, p1 = some a → w.heap.size + 3 ≠ a.block := fun a e => by have := hlow2 a e; omega
    cases ho : pickK isLess W pre with
    | none =>
      rw [ho] at g8 g9 HP
      have HS : Hid (pickK isLess W (pre ++ [x]) = some x) := HP.out
      clear HP
      replace g9 : W'.cell? ⟨w.heap.size + 3, 0, none⟩ = some (.bool false) := g9
      gi_wp2
      refine wpIn_region_held_round (S := fun X => X.cell? ⟨w.heap.size + 3, 0, none⟩ = some (.bool false)) (by kernel_rfl) (by kernel_rfl) g9 (fun hHeld => ?_)
      refine wpAnyH_take (i := 0) (v := ?_) rfl (by kernel_rfl) (by kernel_rfl) (by kernel_rfl) (fun _ _ _ h => h) (Or.inl ⟨by rfl, ?_⟩) hHeld ?_
      rotate_left
      · intro w' hSw; try dsimp only at hSw
        go_simp; try (with_reducible rfl)
      try simp only [Act.put, List.getElem_toArray, List.getElem_cons_succ, List.getElem_cons_zero, List.setIfInBounds_toArray, List.set_cons_zero, List.set_cons_succ]
      refine wpAnyH_take (i := 1) (v := ?_) rfl (by kernel_rfl) (by kernel_rfl) (by kernel_rfl) (fun _ _ _ h => h) (Or.inl ⟨by rfl, ?_⟩) hHeld ?_
      rotate_left
      · intro w' hSw; try dsimp only at hSw
        go_simp; try (with_reducible rfl)
      try simp only [Act.put, List.getElem_toArray, List.getElem_cons_succ, List.getElem_cons_zero, List.setIfInBounds_toArray, List.set_cons_zero, List.set_cons_succ]
      refine wpAnyH_take (i := 2) (v := ?_) rfl (by kernel_rfl) (by kernel_rfl) (by kernel_rfl) (fun _ _ _ h => h) (Or.inl ⟨by rfl, ?_⟩) hHeld ?_
      rotate_left
      · intro w' hSw; try dsimp only at hSw
        go_simp; try (with_reducible rfl)
      try simp only [Act.put, List.getElem_toArray, List.getElem_cons_succ, List.getElem_cons_zero, List.setIfInBounds_toArray, List.set_cons_zero, List.set_cons_succ]
      refine wpAnyH_take (i := 3) (v := undef) rfl (by kernel_rfl) (by kernel_rfl) (by kernel_rfl) (fun _ _ _ h => h) (Or.inr ⟨by rfl, rfl⟩) hHeld ?_
      try simp only [Act.put, List.getElem_toArray, List.getElem_cons_succ, List.getElem_cons_zero, List.setIfInBounds_toArray, List.set_cons_zero, List.set_cons_succ]
      refine wpAnyH_take (i := 4) (v := undef) rfl (by kernel_rfl) (by kernel_rfl) (by kernel_rfl) (fun _ _ _ h => h) (Or.inr ⟨by rfl, rfl⟩) hHeld ?_
      try simp only [Act.put, List.getElem_toArray, List.getElem_cons_succ, List.getElem_cons_zero, List.setIfInBounds_toArray, List.set_cons_zero, List.set_cons_succ]
      refine wpAnyH_take (i := 5) (v := undef) rfl (by kernel_rfl) (by kernel_rfl) (by kernel_rfl) (fun _ _ _ h => h) (Or.inr ⟨by rfl, rfl⟩) hHeld ?_
      try simp only [Act.put, List.getElem_toArray, List.getElem_cons_succ, List.getElem_cons_zero, List.setIfInBounds_toArray, List.set_cons_zero, List.set_cons_succ]
      refine wpAnyH_take (i := 6) (v := undef) rfl (by kernel_rfl) (by kernel_rfl) (by kernel_rfl) (fun _ _ _ h => h) (Or.inr ⟨by rfl, rfl⟩) hHeld ?_
      try simp only [Act.put, List.getElem_toArray, List.getElem_cons_succ, List.getElem_cons_zero, List.setIfInBounds_toArray, List.set_cons_zero, List.set_cons_succ]
      refine wpAnyH_take (i := 7) (v := undef) rfl (by kernel_rfl) (by kernel_rfl) (by kernel_rfl) (fun _ _ _ h => h) (Or.inr ⟨by rfl, rfl⟩) hHeld ?_
      try simp only [Act.put, List.getElem_toArray, List.getElem_cons_succ, List.getElem_cons_zero, List.setIfInBounds_toArray, List.set_cons_zero, List.set_cons_succ]
      refine wpAnyH_take (i := 8) (v := undef) rfl (by kernel_rfl) (by kernel_rfl) (by kernel_rfl) (fun _ _ _ h => h) (Or.inr ⟨by rfl, rfl⟩) hHeld ?_
      try simp only [Act.put, List.getElem_toArray, List.getElem_cons_succ, List.getElem_cons_zero, List.setIfInBounds_toArray, List.set_cons_zero, List.set_cons_succ]
      refine wpAnyH_take (i := 9) (v := undef) rfl (by kernel_rfl) (by kernel_rfl) (by kernel_rfl) (fun _ _ _ h => h) (Or.inr ⟨by rfl, rfl⟩) hHeld ?_
      try simp only [Act.put, List.getElem_toArray, List.getElem_cons_succ, List.getElem_cons_zero, List.setIfInBounds_toArray, List.set_cons_zero, List.set_cons_succ]
      refine wpAnyH_take (i := 10) (v := undef) rfl (by kernel_rfl) (by kernel_rfl) (by kernel_rfl) (fun _ _ _ h => h) (Or.inr ⟨by rfl, rfl⟩) hHeld ?_
      try simp only [Act.put, List.getElem_toArray, List.getElem_cons_succ, List.getElem_cons_zero, List.setIfInBounds_toArray, List.set_cons_zero, List.set_cons_succ]
      refine wpAnyH_take (i := 11) (v := undef) rfl (by kernel_rfl) (by kernel_rfl) (by kernel_rfl) (fun _ _ _ h => h) (Or.inr ⟨by rfl, rfl⟩) hHeld ?_
      try simp only [Act.put, List.getElem_toArray, List.getElem_cons_succ, List.getElem_cons_zero, List.setIfInBounds_toArray, List.set_cons_zero, List.set_cons_succ]
      refine wpAnyH_take (i := 12) (v := undef) rfl (by kernel_rfl) (by kernel_rfl) (by kernel_rfl) (fun _ _ _ h => h) (Or.inr ⟨by rfl, rfl⟩) hHeld ?_
      try simp only [Act.put, List.getElem_toArray, List.getElem_cons_succ, List.getElem_cons_zero, List.setIfInBounds_toArray, List.set_cons_zero, List.set_cons_succ]
      refine wpAnyH_take (i := 13) (v := undef) rfl (by kernel_rfl) (by kernel_rfl) (by kernel_rfl) (fun _ _ _ h => h) (Or.inr ⟨by rfl, rfl⟩) hHeld ?_
      try simp only [Act.put, List.getElem_toArray, List.getElem_cons_succ, List.getElem_cons_zero, List.setIfInBounds_toArray, List.set_cons_zero, List.set_cons_succ]
      refine wpAnyH_take (i := 14) (v := undef) rfl (by kernel_rfl) (by kernel_rfl) (by kernel_rfl) (fun _ _ _ h => h) (Or.inr ⟨by rfl, rfl⟩) hHeld ?_
      try simp only [Act.put, List.getElem_toArray, List.getElem_cons_succ, List.getElem_cons_zero, List.setIfInBounds_toArray, List.set_cons_zero, List.set_cons_succ]
      refine wpAnyH_take (i := 15) (v := ?_) rfl (by kernel_rfl) (by kernel_rfl) (by kernel_rfl) (fun _ _ _ h => h) (Or.inl ⟨by rfl, ?_⟩) hHeld ?_
      rotate_left
      · intro w' hSw; try dsimp only at hSw
        go_simp; try (with_reducible rfl)
      try simp only [Act.put, List.getElem_toArray, List.getElem_cons_succ, List.getElem_cons_zero, List.setIfInBounds_toArray, List.set_cons_zero, List.set_cons_succ]
      refine wpAnyH_done (by kernel_rfl) ?_ _
      refine NoBad.normal ?_
      gi_wp2
      have m8 := (h8.set (.int .i64 (x.1 : Int))).other (show w.heap.size + 2 ≠ w.heap.size + 3 by omega) (.bool true)
      have m9 := (h9.other (show w.heap.size + 3 ≠ w.heap.size + 2 by omega) (.int .i64 (x.1 : Int))).set (.bool true)
      have m3 := (h3.setOther ⟨w.heap.size + 2, 0, none⟩ (.int .i64 (x.1 : Int)) (show w.heap.size ≠ w.heap.size + 2 by omega)).setOther ⟨w.heap.size + 3, 0, none⟩ (.bool true) (show w.heap.size ≠ w.heap.size + 3 by omega)
      have m5 := (h5.other (show w.heap.size + 1 ≠ w.heap.size + 2 by omega) (.int .i64 (x.1 : Int))).other (show w.heap.size + 1 ≠ w.heap.size + 3 by omega) (.bool true)
      have mB := (hB.setCell (p := ⟨w.heap.size + 2, 0, none⟩) (by show w.heap.size ≤ w.heap.size + 2; omega) (.int .i64 (x.1 : Int))).setCell (p := ⟨w.heap.size + 3, 0, none⟩) (by show w.heap.size ≤ w.heap.size + 3; omega) (.bool true)
      have mK := ((KpK.refl Bs p1 W').setCell (.int .i64 (x.1 : Int)) hk8 hj8).setCell (.bool true) hk9 hj9
      have mO : KeepsOthers W' ((W'.setCell ⟨w.heap.size + 2, 0, none⟩ (.int .i64 (x.1 : Int))).setCell ⟨w.heap.size + 3, 0, none⟩ (.bool true)) := (KeepsOthers.setCell _ _ _).trans (KeepsOthers.setCell _ _ _)
      exact ⟨mO.trans (KeepsOthers.drew _), mK, by rw [HS.out]; exact m8, by rw [HS.out]; exact m9, m3, m5, mB.drew⟩
    | some b =>
      rw [ho] at g8 g9 HP
      replace g9 : W'.cell? ⟨w.heap.size + 3, 0, none⟩ = some (.bool true) := g9
      replace g8 : W'.cell? ⟨w.heap.size + 2, 0, none⟩ = some (.int .i64 (b.1 : Int)) := g8
      have hbm : b.1 < m := Nat.lt_of_lt_of_le b.2 hmn
      have gb := hcq b.1 hbm
      have hb1 : (b.1 : Int) < (m : Int) := by omega
      cases hah : isLess (eI W x.1) (eI W b.1) with
      | true =>
        have HS : Hid (pickK isLess W (pre ++ [x]) = some x) := by show _ = _; rw [HP.out]; unfold pickStep; simp only; rw [hah]; rfl
        clear HP
        gi_wp2
        refine wpIn_region_held_round (S := fun X => X.cell? ⟨w.heap.size + 3, 0, none⟩ = some (.bool true) ∧ X.cell? ⟨w.heap.size + 2, 0, none⟩ = some (.int .i64 (b.1 : Int)) ∧ X.cell? ⟨w.heap.size + 1, 0, none⟩ = some (.func (.func 52) #[] #[]) ∧ X.cell? ⟨w.heap.size, 1, none⟩ = some (.slice (some ⟨bq, oq, none⟩) m d) ∧ X.cell? ⟨bq, oq + x.1, none⟩ = some (.int .i64 (eI W x.1)) ∧ X.cell? ⟨bq, oq + b.1, none⟩ = some (.int .i64 (eI W b.1))) (by kernel_rfl) (by kernel_rfl) ⟨g9, g8, g5, g3, gx, gb⟩ (fun hHeld => ?_)
        refine wpAnyH_take (i := 0) (v := ?_) rfl (by kernel_rfl) (by kernel_rfl) (by kernel_rfl) (fun _ _ _ h => h) (Or.inl ⟨by rfl, ?_⟩) hHeld ?_
        rotate_left
        · intro w' hSw; try dsimp only at hSw
          go_simp; try (with_reducible rfl)
        try simp only [Act.put, List.getElem_toArray, List.getElem_cons_succ, List.getElem_cons_zero, List.setIfInBounds_toArray, List.set_cons_zero, List.set_cons_succ]
        refine wpAnyH_take (i := 1) (v := ?_) rfl (by kernel_rfl) (by kernel_rfl) (by kernel_rfl) (fun _ _ _ h => h) (Or.inl ⟨by rfl, ?_⟩) hHeld ?_
        rotate_left
        · intro w' hSw; try dsimp only at hSw
          go_simp; try (with_reducible rfl)
        try simp only [Act.put, List.getElem_toArray, List.getElem_cons_succ, List.getElem_cons_zero, List.setIfInBounds_toArray, List.set_cons_zero, List.set_cons_succ]
        refine wpAnyH_take (i := 2) (v := ?_) rfl (by kernel_rfl) (by kernel_rfl) (by kernel_rfl) (fun _ _ _ h => h) (Or.inl ⟨by rfl, ?_⟩) hHeld ?_
        rotate_left
        · intro w' hSw; try dsimp only at hSw
          go_simp; try (with_reducible rfl)
        try simp only [Act.put, List.getElem_toArray, List.getElem_cons_succ, List.getElem_cons_zero, List.setIfInBounds_toArray, List.set_cons_zero, List.set_cons_succ]
        refine wpAnyH_take (i := 3) (v := ?_) rfl (by kernel_rfl) (by kernel_rfl) (by kernel_rfl) (fun _ _ _ h => h) (Or.inl ⟨by rfl, ?_⟩) hHeld ?_
        rotate_left
        · intro w' hSw; try dsimp only at hSw
          go_simp; try (with_reducible rfl)
        try simp only [Act.put, List.getElem_toArray, List.getElem_cons_succ, List.getElem_cons_zero, List.setIfInBounds_toArray, List.set_cons_zero, List.set_cons_succ]
        refine wpAnyH_take (i := 4) (v := ?_) rfl (by kernel_rfl) (by kernel_rfl) (by kernel_rfl) (fun _ _ _ h => h) (Or.inl ⟨by rfl, ?_⟩) hHeld ?_
        rotate_left
        · intro w' hSw; try dsimp only at hSw
          go_simp; try (with_reducible rfl)
        try simp only [Act.put, List.getElem_toArray, List.getElem_cons_succ, List.getElem_cons_zero, List.setIfInBounds_toArray, List.set_cons_zero, List.set_cons_succ]
        refine wpAnyH_take (i := 5) (v := ?_) rfl (by kernel_rfl) (by kernel_rfl) (by kernel_rfl) (fun _ _ _ h => h) (Or.inl ⟨by rfl, ?_⟩) hHeld ?_
        rotate_left
        · intro w' hSw; try dsimp only at hSw
          go_simp; try (with_reducible rfl)
        try simp only [Act.put, List.getElem_toArray, List.getElem_cons_succ, List.getElem_cons_zero, List.setIfInBounds_toArray, List.set_cons_zero, List.set_cons_succ]
        refine wpAnyH_take (i := 6) (v := ?_) rfl (by kernel_rfl) (by kernel_rfl) (by kernel_rfl) (fun _ _ _ h => h) (Or.inl ⟨by rfl, ?_⟩) hHeld ?_
        rotate_left
        · intro w' hSw; try dsimp only at hSw
          go_simp; try (with_reducible rfl)
        try simp only [Act.put, List.getElem_toArray, List.getElem_cons_succ, List.getElem_cons_zero, List.setIfInBounds_toArray, List.set_cons_zero, List.set_cons_succ]
        refine wpAnyH_take (i := 7) (v := ?_) rfl (by kernel_rfl) (by kernel_rfl) (by kernel_rfl) (fun _ _ _ h => h) (Or.inl ⟨by rfl, ?_⟩) hHeld ?_
        rotate_left
        · intro w' hSw; try dsimp only at hSw
          go_simp; try (with_reducible rfl)
        try simp only [Act.put, List.getElem_toArray, List.getElem_cons_succ, List.getElem_cons_zero, List.setIfInBounds_toArray, List.set_cons_zero, List.set_cons_succ]
        refine wpAnyH_take (i := 8) (v := ?_) rfl (by kernel_rfl) (by kernel_rfl) (by kernel_rfl) (fun _ _ _ h => h) (Or.inl ⟨by rfl, ?_⟩) hHeld ?_
        rotate_left
        · intro w' hSw; try dsimp only at hSw
          go_simp; try (with_reducible rfl)
        try simp only [Act.put, List.getElem_toArray, List.getElem_cons_succ, List.getElem_cons_zero, List.setIfInBounds_toArray, List.set_cons_zero, List.set_cons_succ]
        refine wpAnyH_take (i := 9) (v := ?_) rfl (by kernel_rfl) (by kernel_rfl) (by kernel_rfl) (fun _ _ _ h => h) (Or.inl ⟨by rfl, ?_⟩) hHeld ?_
        rotate_left
        · intro w' hSw; try dsimp only at hSw
          go_simp; try (with_reducible rfl)
        try simp only [Act.put, List.getElem_toArray, List.getElem_cons_succ, List.getElem_cons_zero, List.setIfInBounds_toArray, List.set_cons_zero, List.set_cons_succ]
        refine wpAnyH_take (i := 10) (v := ?_) rfl (by kernel_rfl) (by kernel_rfl) (by kernel_rfl) (fun _ _ _ h => h) (Or.inl ⟨by rfl, ?_⟩) hHeld ?_
        rotate_left
        · intro w' hSw; try dsimp only at hSw
          go_simp; try (with_reducible rfl)
        try simp only [Act.put, List.getElem_toArray, List.getElem_cons_succ, List.getElem_cons_zero, List.setIfInBounds_toArray, List.set_cons_zero, List.set_cons_succ]
        refine wpAnyH_take (i := 11) (v := ?_) rfl (by kernel_rfl) (by kernel_rfl) (by kernel_rfl) (fun _ _ _ h => h) (Or.inl ⟨by rfl, ?_⟩) hHeld ?_
        rotate_left
        · intro w' hSw; try dsimp only at hSw
          go_simp; try (with_reducible rfl)
        try simp only [Act.put, List.getElem_toArray, List.getElem_cons_succ, List.getElem_cons_zero, List.setIfInBounds_toArray, List.set_cons_zero, List.set_cons_succ]
        refine wpAnyH_take (i := 12) (v := ?_) rfl (by kernel_rfl) (by kernel_rfl) (by kernel_rfl) (fun _ _ _ h => h) (Or.inl ⟨by rfl, ?_⟩) hHeld ?_
        rotate_left
        · intro w' hSw; try dsimp only at hSw
          go_simp; try (with_reducible rfl)
        try simp only [Act.put, List.getElem_toArray, List.getElem_cons_succ, List.getElem_cons_zero, List.setIfInBounds_toArray, List.set_cons_zero, List.set_cons_succ]
        refine wpAnyH_take (i := 13) (v := ?_) rfl (by kernel_rfl) (by kernel_rfl) (by kernel_rfl) (fun _ _ _ h => h) (Or.inl ⟨by rfl, ?_⟩) hHeld ?_
        rotate_left
        · intro w' hSw; try dsimp only at hSw
          go_simp; try (with_reducible rfl)
        try simp only [Act.put, List.getElem_toArray, List.getElem_cons_succ, List.getElem_cons_zero, List.setIfInBounds_toArray, List.set_cons_zero, List.set_cons_succ]
        refine wpAnyH_ready (rs := [14]) (by kernel_rfl) (by simp) ?_
        refine AllReadyH.cons rfl (fun K hK => ?_) AllReadyH.nil
        go_simp
        refine (less_any _ _ _).mono ?_
        rintro e w2 ⟨rfl, hw2⟩
        have hw3 := hw2.symm; subst hw3; clear hw2
        have hah2 : decide _ = true := hah
        rw [hah2]
        try go_wp2_with fail
        refine hK.out _ _ hHeld (fun hHeld => ?_)
        clear hK K
        try simp only [Act.put, List.getElem_toArray, List.getElem_cons_succ, List.getElem_cons_zero, List.setIfInBounds_toArray, List.set_cons_zero, List.set_cons_succ]
        refine wpAnyH_take (i := 15) (v := ?_) rfl (by kernel_rfl) (by kernel_rfl) (by kernel_rfl) (fun _ _ _ h => h) (Or.inl ⟨by rfl, ?_⟩) hHeld ?_
        rotate_left
        · intro w' hSw; try dsimp only at hSw
          go_simp; try (with_reducible rfl)
        try simp only [Act.put, List.getElem_toArray, List.getElem_cons_succ, List.getElem_cons_zero, List.setIfInBounds_toArray, List.set_cons_zero, List.set_cons_succ]
        refine wpAnyH_done (by kernel_rfl) ?_ _
        refine NoBad.normal ?_
        gi_wp2
        have m8 := (h8.set (.int .i64 (x.1 : Int))).other (show w.heap.size + 2 ≠ w.heap.size + 3 by omega) (.bool true)
        have m9 := (h9.other (show w.heap.size + 3 ≠ w.heap.size + 2 by omega) (.int .i64 (x.1 : Int))).set (.bool true)
        have m3 := (h3.setOther ⟨w.heap.size + 2, 0, none⟩ (.int .i64 (x.1 : Int)) (show w.heap.size ≠ w.heap.size + 2 by omega)).setOther ⟨w.heap.size + 3, 0, none⟩ (.bool true) (show w.heap.size ≠ w.heap.size + 3 by omega)
        have m5 := (h5.other (show w.heap.size + 1 ≠ w.heap.size + 2 by omega) (.int .i64 (x.1 : Int))).other (show w.heap.size + 1 ≠ w.heap.size + 3 by omega) (.bool true)
        have mB := (hB.setCell (p := ⟨w.heap.size + 2, 0, none⟩) (by show w.heap.size ≤ w.heap.size + 2; omega) (.int .i64 (x.1 : Int))).setCell (p := ⟨w.heap.size + 3, 0, none⟩) (by show w.heap.size ≤ w.heap.size + 3; omega) (.bool true)
        have mK := ((KpK.refl Bs p1 W').setCell (.int .i64 (x.1 : Int)) hk8 hj8).setCell (.bool true) hk9 hj9
        have mO : KeepsOthers W' ((W'.setCell ⟨w.heap.size + 2, 0, none⟩ (.int .i64 (x.1 : Int))).setCell ⟨w.heap.size + 3, 0, none⟩ (.bool true)) := (KeepsOthers.setCell _ _ _).trans (KeepsOthers.setCell _ _ _)
        exact ⟨mO.trans (KeepsOthers.drew _), mK, by rw [HS.out]; exact m8, by rw [HS.out]; exact m9, m3, m5, mB.drew⟩
      | false =>
        have HS : Hid (pickK isLess W (pre ++ [x]) = some b) := by show _ = _; rw [HP.out]; unfold pickStep; simp only; rw [hah]; rfl
        clear HP
        gi_wp2
        refine wpIn_region_held_round (S := fun X => X.cell? ⟨w.heap.size + 3, 0, none⟩ = some (.bool true) ∧ X.cell? ⟨w.heap.size + 2, 0, none⟩ = some (.int .i64 (b.1 : Int)) ∧ X.cell? ⟨w.heap.size + 1, 0, none⟩ = some (.func (.func 52) #[] #[]) ∧ X.cell? ⟨w.heap.size, 1, none⟩ = some (.slice (some ⟨bq, oq, none⟩) m d) ∧ X.cell? ⟨bq, oq + x.1, none⟩ = some (.int .i64 (eI W x.1)) ∧ X.cell? ⟨bq, oq + b.1, none⟩ = some (.int .i64 (eI W b.1))) (by kernel_rfl) (by kernel_rfl) ⟨g9, g8, g5, g3, gx, gb⟩ (fun hHeld => ?_)
        refine wpAnyH_take (i := 0) (v := ?_) rfl (by kernel_rfl) (by kernel_rfl) (by kernel_rfl) (fun _ _ _ h => h) (Or.inl ⟨by rfl, ?_⟩) hHeld ?_
        rotate_left
        · intro w' hSw; try dsimp only at hSw
          go_simp; try (with_reducible rfl)
        try simp only [Act.put, List.getElem_toArray, List.getElem_cons_succ, List.getElem_cons_zero, List.setIfInBounds_toArray, List.set_cons_zero, List.set_cons_succ]
        refine wpAnyH_take (i := 1) (v := ?_) rfl (by kernel_rfl) (by kernel_rfl) (by kernel_rfl) (fun _ _ _ h => h) (Or.inl ⟨by rfl, ?_⟩) hHeld ?_
        rotate_left
        · intro w' hSw; try dsimp only at hSw
          go_simp; try (with_reducible rfl)
        try simp only [Act.put, List.getElem_toArray, List.getElem_cons_succ, List.getElem_cons_zero, List.setIfInBounds_toArray, List.set_cons_zero, List.set_cons_succ]
        refine wpAnyH_take (i := 2) (v := ?_) rfl (by kernel_rfl) (by kernel_rfl) (by kernel_rfl) (fun _ _ _ h => h) (Or.inl ⟨by rfl, ?_⟩) hHeld ?_
        rotate_left
        · intro w' hSw; try dsimp only at hSw
          go_simp; try (with_reducible rfl)
        try simp only [Act.put, List.getElem_toArray, List.getElem_cons_succ, List.getElem_cons_zero, List.setIfInBounds_toArray, List.set_cons_zero, List.set_cons_succ]
        refine wpAnyH_take (i := 3) (v := ?_) rfl (by kernel_rfl) (by kernel_rfl) (by kernel_rfl) (fun _ _ _ h => h) (Or.inl ⟨by rfl, ?_⟩) hHeld ?_
        rotate_left
        · intro w' hSw; try dsimp only at hSw
          go_simp; try (with_reducible rfl)
        try simp only [Act.put, List.getElem_toArray, List.getElem_cons_succ, List.getElem_cons_zero, List.setIfInBounds_toArray, List.set_cons_zero, List.set_cons_succ]
        refine wpAnyH_take (i := 4) (v := ?_) rfl (by kernel_rfl) (by kernel_rfl) (by kernel_rfl) (fun _ _ _ h => h) (Or.inl ⟨by rfl, ?_⟩) hHeld ?_
        rotate_left
        · intro w' hSw; try dsimp only at hSw
          go_simp; try (with_reducible rfl)
        try simp only [Act.put, List.getElem_toArray, List.getElem_cons_succ, List.getElem_cons_zero, List.setIfInBounds_toArray, List.set_cons_zero, List.set_cons_succ]
        refine wpAnyH_take (i := 5) (v := ?_) rfl (by kernel_rfl) (by kernel_rfl) (by kernel_rfl) (fun _ _ _ h => h) (Or.inl ⟨by rfl, ?_⟩) hHeld ?_
        rotate_left
        · intro w' hSw; try dsimp only at hSw
          go_simp; try (with_reducible rfl)
        try simp only [Act.put, List.getElem_toArray, List.getElem_cons_succ, List.getElem_cons_zero, List.setIfInBounds_toArray, List.set_cons_zero, List.set_cons_succ]
        refine wpAnyH_take (i := 6) (v := ?_) rfl (by kernel_rfl) (by kernel_rfl) (by kernel_rfl) (fun _ _ _ h => h) (Or.inl ⟨by rfl, ?_⟩) hHeld ?_
        rotate_left
        · intro w' hSw; try dsimp only at hSw
          go_simp; try (with_reducible rfl)
        try simp only [Act.put, List.getElem_toArray, List.getElem_cons_succ, List.getElem_cons_zero, List.setIfInBounds_toArray, List.set_cons_zero, List.set_cons_succ]
        refine wpAnyH_take (i := 7) (v := ?_) rfl (by kernel_rfl) (by kernel_rfl) (by kernel_rfl) (fun _ _ _ h => h) (Or.inl ⟨by rfl, ?_⟩) hHeld ?_
        rotate_left
        · intro w' hSw; try dsimp only at hSw
          go_simp; try (with_reducible rfl)
        try simp only [Act.put, List.getElem_toArray, List.getElem_cons_succ, List.getElem_cons_zero, List.setIfInBounds_toArray, List.set_cons_zero, List.set_cons_succ]
        refine wpAnyH_take (i := 8) (v := ?_) rfl (by kernel_rfl) (by kernel_rfl) (by kernel_rfl) (fun _ _ _ h => h) (Or.inl ⟨by rfl, ?_⟩) hHeld ?_
        rotate_left
        · intro w' hSw; try dsimp only at hSw
          go_simp; try (with_reducible rfl)
        try simp only [Act.put, List.getElem_toArray, List.getElem_cons_succ, List.getElem_cons_zero, List.setIfInBounds_toArray, List.set_cons_zero, List.set_cons_succ]
        refine wpAnyH_take (i := 9) (v := ?_) rfl (by kernel_rfl) (by kernel_rfl) (by kernel_rfl) (fun _ _ _ h => h) (Or.inl ⟨by rfl, ?_⟩) hHeld ?_
        rotate_left
        · intro w' hSw; try dsimp only at hSw
          go_simp; try (with_reducible rfl)
        try simp only [Act.put, List.getElem_toArray, List.getElem_cons_succ, List.getElem_cons_zero, List.setIfInBounds_toArray, List.set_cons_zero, List.set_cons_succ]
        refine wpAnyH_take (i := 10) (v := ?_) rfl (by kernel_rfl) (by kernel_rfl) (by kernel_rfl) (fun _ _ _ h => h) (Or.inl ⟨by rfl, ?_⟩) hHeld ?_
        rotate_left
        · intro w' hSw; try dsimp only at hSw
          go_simp; try (with_reducible rfl)
        try simp only [Act.put, List.getElem_toArray, List.getElem_cons_succ, List.getElem_cons_zero, List.setIfInBounds_toArray, List.set_cons_zero, List.set_cons_succ]
        refine wpAnyH_take (i := 11) (v := ?_) rfl (by kernel_rfl) (by kernel_rfl) (by kernel_rfl) (fun _ _ _ h => h) (Or.inl ⟨by rfl, ?_⟩) hHeld ?_
        rotate_left
        · intro w' hSw; try dsimp only at hSw
          go_simp; try (with_reducible rfl)
        try simp only [Act.put, List.getElem_toArray, List.getElem_cons_succ, List.getElem_cons_zero, List.setIfInBounds_toArray, List.set_cons_zero, List.set_cons_succ]
        refine wpAnyH_take (i := 12) (v := ?_) rfl (by kernel_rfl) (by kernel_rfl) (by kernel_rfl) (fun _ _ _ h => h) (Or.inl ⟨by rfl, ?_⟩) hHeld ?_
        rotate_left
        · intro w' hSw; try dsimp only at hSw
          go_simp; try (with_reducible rfl)
        try simp only [Act.put, List.getElem_toArray, List.getElem_cons_succ, List.getElem_cons_zero, List.setIfInBounds_toArray, List.set_cons_zero, List.set_cons_succ]
        refine wpAnyH_take (i := 13) (v := ?_) rfl (by kernel_rfl) (by kernel_rfl) (by kernel_rfl) (fun _ _ _ h => h) (Or.inl ⟨by rfl, ?_⟩) hHeld ?_
        rotate_left
        · intro w' hSw; try dsimp only at hSw
          go_simp; try (with_reducible rfl)
        try simp only [Act.put, List.getElem_toArray, List.getElem_cons_succ, List.getElem_cons_zero, List.setIfInBounds_toArray, List.set_cons_zero, List.set_cons_succ]
        refine wpAnyH_ready (rs := [14]) (by kernel_rfl) (by simp) ?_
        refine AllReadyH.cons rfl (fun K hK => ?_) AllReadyH.nil
        go_simp
        refine (less_any _ _ _).mono ?_
        rintro e w2 ⟨rfl, hw2⟩
        have hw3 := hw2.symm; subst hw3; clear hw2
        have hah2 : decide _ = false := hah
        rw [hah2]
        try go_wp2_with fail
        refine hK.out _ _ hHeld (fun hHeld => ?_)
        clear hK K
        try simp only [Act.put, List.getElem_toArray, List.getElem_cons_succ, List.getElem_cons_zero, List.setIfInBounds_toArray, List.set_cons_zero, List.set_cons_succ]
        refine wpAnyH_take (i := 15) (v := ?_) rfl (by kernel_rfl) (by kernel_rfl) (by kernel_rfl) (fun _ _ _ h => h) (Or.inl ⟨by rfl, ?_⟩) hHeld ?_
        rotate_left
        · intro w' hSw; try dsimp only at hSw
          go_simp; try (with_reducible rfl)
        try simp only [Act.put, List.getElem_toArray, List.getElem_cons_succ, List.getElem_cons_zero, List.setIfInBounds_toArray, List.set_cons_zero, List.set_cons_succ]
        refine wpAnyH_done (by kernel_rfl) ?_ _
        refine NoBad.normal ?_
        gi_wp2
        exact ⟨KeepsOthers.drew _, KpK.refl _ _ _, by rw [HS.out, ← ho]; exact h8, by rw [HS.out, ← ho]; exact h9, h3, h5, hB.drew⟩
theorem pickLess_any (p q : Option Addr) (n c m d : Nat) (R W : List Int) (role : Int) (w : World) (hR : InI w p n c R) (hW : InI w q m d W) :
    Calls Try.prog 51 #[.agg #[.slice p n c, .slice q m d], .int .i64 role, .func (.func 52) #[] #[]] w fun e w' => e = .returned (.tuple #[.int .i64 (bestN (pickK isLess W (allK R W role))), .bool (pickK isLess W (allK R W role)).isSome]) ∧ Below w.heap.size w w' :=
  (callsIn_wide (n := 4)).1 (pickLess_in 4 (Nat.le_refl _) p q n c m d R W role w hR hW)
set_option linter.unusedSimpArgs false in
set_option maxRecDepth 100000 in
set_option maxHeartbeats 4000000 in
theorem pickMore_in (nf : Nat) (hnf : 4 ≤ nf) (p q : Option Addr) (n c m d : Nat) (R W : List Int) (role : Int) (w : World) (hR : InI w p n c R) (hW : InI w q m d W) :
    CallsIn Fence.wide nf Try.prog 51 #[.agg #[.slice p n c, .slice q m d], .int .i64 role, .func (.func 55) #[] #[]] w fun e w' => e = .returned (.tuple #[.int .i64 (bestN (pickK isMore W (allK R W role))), .bool (pickK isMore W (allK R W role)).isSome]) ∧ Below w.heap.size w w' := by
  have h1 : 1 ≤ nf := by omega
  have hall := fun W' (h1 : InI W' p n c R) (h2 : InI W' q m d W) => all_any p q n c m d R W role W' h1 h2
  have hmn : min R.length W.length ≤ m := by rw [hW.len]; omega
  generalize allK R W role = ks at *
  generalize min R.length W.length = N at *
  have HLR : Hid (R.length = n) := hR.len
  have HLW : Hid (W.length = m) := hW.len
  have hb0 : Below w.heap.size w ((((w.alloc (.cells #[.slice p n c, .slice q m d] 25)).alloc (.cells #[.func (.func 55) #[] #[]] 71)).alloc (.cells #[.int .i64 0] 3)).alloc (.cells #[.bool false] 4)) := bt (bt (bt (below_alloc w _) (below_alloc _ _)) (below_alloc _ _)) (below_alloc _ _)
  have b3 := (((Blk.new' w 25 #[.slice p n c, .slice q m d]).alloc (.cells #[.func (.func 55) #[] #[]] 71)).alloc (.cells #[.int .i64 0] 3)).alloc (.cells #[.bool false] 4)
  have b5 := ((Boxed.new (w.alloc (.cells #[.slice p n c, .slice q m d] 25)) 71 (.func (.func 55) #[] #[])).alloc (.cells #[.int .i64 0] 3)).alloc (.cells #[.bool false] 4)
  have b8 := (Boxed.new ((w.alloc (.cells #[.slice p n c, .slice q m d] 25)).alloc (.cells #[.func (.func 55) #[] #[]] 71)) 3 (.int .i64 0)).alloc (.cells #[.bool false] 4)
  have b9 := Boxed.new (((w.alloc (.cells #[.slice p n c, .slice q m d] 25)).alloc (.cells #[.func (.func 55) #[] #[]] 71)).alloc (.cells #[.int .i64 0] 3)) 4 (.bool false)
  simp only [World.size_alloc] at b5 b8 b9
  refine callsIn_of_wp_marks Try.func51 rfl trivial ?_ rfl
  simp only [Try.ntmps51, List.size_toArray, List.length_cons, List.length_nil, Nat.reduceAdd, Nat.reduceSub, Array.replicate_succ, Array.replicate_zero, List.push_toArray, List.append_toArray, List.nil_append, List.cons_append]
  gi_wp2_with (refine ⟨trivial, ?_⟩; gi_at_call 37; refine (callsIn_wide.2 (hall _ (hR.below hb0) (hW.below hb0))).mono ?_; rintro e w1 ⟨Bs, p1, c1, rfl, hBs, hbs, hin, hne, hb1⟩)
  have hs0 : w.heap.size + 4 ≤ ((((w.alloc (.cells #[.slice p n c, .slice q m d] 25)).alloc (.cells #[.func (.func 55) #[] #[]] 71)).alloc (.cells #[.int .i64 0] 3)).alloc (.cells #[.bool false] 4)).heap.size := by simp only [World.size_alloc]; omega
  have hB1 := bt hb0 hb1
  replace b3 := b3.kept hb1
  replace b5 : Boxed w1 (w.heap.size + 1) 71 (.func (.func 55) #[] #[]) := (hb1.block _ b5.lt).trans b5
  replace b8 : Boxed w1 (w.heap.size + 2) 3 (.int .i64 0) := (hb1.block _ b8.lt).trans b8
  replace b9 : Boxed w1 (w.heap.size + 3) 4 (.bool false) := (hb1.block _ b9.lt).trans b9
  have hlow : w.heap.size + 4 ≤ Bs := Nat.le_trans hs0 hBs
  have hlow2 : ∀ a, p1 = some a → w.heap.size + 4 ≤ a.block := fun a e => Nat.le_trans hs0 (hne a e).1
  have hlow3 : ∀ a, p1 = some a → a.block < w1.heap.size := fun a e => (hne a e).2.2
  have hltb := hbs.lt
  have hcb := hbs.cell' (i := 0) rfl
  clear hb0 hb1 hs0 hBs hne hbs
  rw [valsK_length] at hcb hin
  refine wpIn_rangeFunc_ownF rfl h1 (gf := 61) (lb := #[.pointer (some ⟨Bs, 0, none⟩)]) rfl trivial (enters_of Try.func61 (by kernel_rfl) rfl)
    (values_stops Fence.wide (nf - 1) trivial rfl (by omega) Bs c1 p1 ks w1 hltb hcb hin) (fun h k => h.trans k) (fun W' l o o' hl _ _ _ => ⟨⟨World.putObj_heap_other (by omega), by simp [World.putObj]⟩, fun a e => World.putObj_heap_other (by have := hlow3 a e; omega)⟩) (Below.refl _ _) (fun _ => rfl)
    (fun pre W' => Boxed W' (w.heap.size + 2) 3 (.int .i64 (bestN (pickK isMore W pre))) ∧ Boxed W' (w.heap.size + 3) 4 (.bool (pickK isMore W pre).isSome) ∧ Blk W' w.heap.size 25 [.slice p n c, .slice q m d] ∧ Boxed W' (w.heap.size + 1) 71 (.func (.func 55) #[] #[]) ∧ Below w.heap.size w W')
    (fun _ _ _ => False)
    (OwnFrom.and (Own.from (boxed_own (w.heap.size + 2) 3 (fun pre : List (IdxT N) => Value.int .i64 (bestN (pickK isMore W pre)))) _) (OwnFrom.and (Own.from (boxed_own (w.heap.size + 3) 4 (fun pre : List (IdxT N) => Value.bool (pickK isMore W pre).isSome)) _)
      (OwnFrom.and (Own.from (blk_own w.heap.size 25 (fun _ : List (IdxT N) => [.slice p n c, .slice q m d])) _) (OwnFrom.and (Own.from (boxed_own (w.heap.size + 1) 71 (fun _ : List (IdxT N) => .func (.func 55) #[] #[])) _) (ownFrom_below (Nat.le_refl _) (by have := hB1.size; omega))))))
    (fun _ _ _ _ _ hs _ _ => hs)
    ⟨b8, b9, b3, b5, hB1⟩
    (fun x => { tmps := #[.agg #[.slice p n c, .slice q m d], .int .i64 role, .func (.func 55) #[] #[], .pointer (some ⟨w.heap.size, 0, none⟩), undef, .pointer (some ⟨w.heap.size + 1, 0, none⟩), .int .i64 0, .bool false, .pointer (some ⟨w.heap.size + 2, 0, none⟩), .pointer (some ⟨w.heap.size + 3, 0, none⟩), .int .i64 (x.1 : Int), .agg #[.slice p n c, .slice q m d], .int .i64 role, .func (.func 61) #[] #[.pointer (some ⟨Bs, 0, none⟩)], .int .i64 (x.1 : Int), undef, undef, undef, undef, undef, undef, undef, undef, undef, undef, undef, undef, undef, undef, undef, undef, undef, undef, undef], defers := [] })
    ?assign ?body ?done ?stop
  case assign =>
    intro l x W' K hK
    dsimp only [encK]
    gi_wp2
    exact hK
  case done =>
    rintro D ys W' hD rfl ⟨h8, h9, h3, h5, hB⟩ hK
    have g8 := h8.cell
    have g9 := h9.cell
    gi_wp2
    refine wpIn_wide.2 ?_
    refine wp_region_noPanic ?_
    refine wp_region_held_drew (S := fun X => X.cell? ⟨w.heap.size + 2, 0, none⟩ = some (.int .i64 (bestN (pickK isMore W ys))) ∧ X.cell? ⟨w.heap.size + 3, 0, none⟩ = some (.bool (pickK isMore W ys).isSome)) (by kernel_rfl) ⟨g8, g9⟩ (fun hHeld => ?_)
    refine wpAnyH_take (i := 0) (v := ?_) rfl (by kernel_rfl) (by kernel_rfl) (by kernel_rfl) (fun _ _ _ h => h) (Or.inl ⟨by rfl, ?_⟩) hHeld ?_
    rotate_left
    · intro w' hSw; try dsimp only at hSw
      go_simp; try (with_reducible rfl)
    try simp only [Act.put, List.getElem_toArray, List.getElem_cons_succ, List.getElem_cons_zero, List.setIfInBounds_toArray, List.set_cons_zero, List.set_cons_succ]
    refine wpAnyH_take (i := 1) (v := ?_) rfl (by kernel_rfl) (by kernel_rfl) (by kernel_rfl) (fun _ _ _ h => h) (Or.inl ⟨by rfl, ?_⟩) hHeld ?_
    rotate_left
    · intro w' hSw; try dsimp only at hSw
      go_simp; try (with_reducible rfl)
    try simp only [Act.put, List.getElem_toArray, List.getElem_cons_succ, List.getElem_cons_zero, List.setIfInBounds_toArray, List.set_cons_zero, List.set_cons_succ]
    refine wpAnyH_take (i := 2) (v := ?_) rfl (by kernel_rfl) (by kernel_rfl) (by kernel_rfl) (fun _ _ _ h => h) (Or.inl ⟨by rfl, ?_⟩) hHeld ?_
    rotate_left
    · intro w' hSw; try dsimp only at hSw
      go_simp; try (with_reducible rfl)
    try simp only [Act.put, List.getElem_toArray, List.getElem_cons_succ, List.getElem_cons_zero, List.setIfInBounds_toArray, List.set_cons_zero, List.set_cons_succ]
    refine wpAnyH_take (i := 3) (v := ?_) rfl (by kernel_rfl) (by kernel_rfl) (by kernel_rfl) (fun _ _ _ h => h) (Or.inl ⟨by rfl, ?_⟩) hHeld ?_
    rotate_left
    · intro w' hSw; try dsimp only at hSw
      go_simp; try (with_reducible rfl)
    try simp only [Act.put, List.getElem_toArray, List.getElem_cons_succ, List.getElem_cons_zero, List.setIfInBounds_toArray, List.set_cons_zero, List.set_cons_succ]
    refine wpAnyH_done (by kernel_rfl) ?_ _
    refine NoPanic.normal ?_
    gi_wp2
    refine ⟨by simp, .inl ⟨_, _, rfl, run_takeDeferred hK, ?_⟩⟩
    have hs1 := hB1.size
    have hbD : Below w.heap.size W'.drew (W'.drew.putObj D (.deferred none)) := belowK_b (w := w) (Nat.le_refl _) W'.drew D _ _ (by omega) hK rfl rfl
    exact ⟨_, results_tmp2 Try.results51 _ _ _, rfl, hB.drew.trans hbD⟩
  case stop =>
    rintro D c pre W' _ _ h _
    exact h.elim
  case body =>
    rintro l pre x W' ⟨h8, h9, h3, h5, hB⟩ hlen
    have g8 := h8.cell
    have g9 := h9.cell
    have g5 := h5.cell
    have f8 := h8.frozen
    have f9 := h9.frozen
    have g3 := h3.cell' (i := 1) rfl
    have hxm : x.1 < m := Nat.lt_of_lt_of_le x.2 hmn
    obtain ⟨bq, oq, rfl, hltq, hcq⟩ := (hW.below hB).at' (by omega)
    have gx := hcq x.1 hxm
    have hx1 : (x.1 : Int) < (m : Int) := by omega
    have HP : Hid (pickK isMore W (pre ++ [x]) = pickStep isMore W (pickK isMore W pre) x) := pickK_snoc _ _ _ _
    have hk8 : w.heap.size + 2 ≠ Bs := by omega
    have hk9 : w.heap.size + 3 ≠ Bs := by omega
    have hj8 : ∀ a, p1 = some a → w.heap.size + 2 ≠ a.block := fun a e => by have := hlow2 a e; omega
    have hj9 : ∀ a, p1 = some a → w.heap.size + 3 ≠ a.block := fun a e => by have := hlow2 a e; omega
    cases ho : pickK isMore W pre with
    | none =>
      rw [ho] at g8 g9 HP
      have HS : Hid (pickK isMore W (pre ++ [x]) = some x) := HP.out
      clear HP
      replace g9 : W'.cell? ⟨w.heap.size + 3, 0, none⟩ = some (.bool false) := g9
      gi_wp2
      refine wpIn_region_held_round (S := fun X => X.cell? ⟨w.heap.size + 3, 0, none⟩ = some (.bool false)) (by kernel_rfl) (by kernel_rfl) g9 (fun hHeld => ?_)
      refine wpAnyH_take (i := 0) (v := ?_) rfl (by kernel_rfl) (by kernel_rfl) (by kernel_rfl) (fun _ _ _ h => h) (Or.inl ⟨by rfl, ?_⟩) hHeld ?_
      rotate_left
      · intro w' hSw; try dsimp only at hSw
        go_simp; try (with_reducible rfl)
      try simp only [Act.put, List.getElem_toArray, List.getElem_cons_succ, List.getElem_cons_zero, List.setIfInBounds_toArray, List.set_cons_zero, List.set_cons_succ]
      refine wpAnyH_take (i := 1) (v := ?_) rfl (by kernel_rfl) (by kernel_rfl) (by kernel_rfl) (fun _ _ _ h => h) (Or.inl ⟨by rfl, ?_⟩) hHeld ?_
      rotate_left
      · intro w' hSw; try dsimp only at hSw
        go_simp; try (with_reducible rfl)
      try simp only [Act.put, List.getElem_toArray, List.getElem_cons_succ, List.getElem_cons_zero, List.setIfInBounds_toArray, List.set_cons_zero, List.set_cons_succ]
      refine wpAnyH_take (i := 2) (v := ?_) rfl (by kernel_rfl) (by kernel_rfl) (by kernel_rfl) (fun _ _ _ h => h) (Or.inl ⟨by rfl, ?_⟩) hHeld ?_
      rotate_left
      · intro w' hSw; try dsimp only at hSw
        go_simp; try (with_reducible rfl)
      try simp only [Act.put, List.getElem_toArray, List.getElem_cons_succ, List.getElem_cons_zero, List.setIfInBounds_toArray, List.set_cons_zero, List.set_cons_succ]
      refine wpAnyH_take (i := 3) (v := undef) rfl (by kernel_rfl) (by kernel_rfl) (by kernel_rfl) (fun _ _ _ h => h) (Or.inr ⟨by rfl, rfl⟩) hHeld ?_
      try simp only [Act.put, List.getElem_toArray, List.getElem_cons_succ, List.getElem_cons_zero, List.setIfInBounds_toArray, List.set_cons_zero, List.set_cons_succ]
      refine wpAnyH_take (i := 4) (v := undef) rfl (by kernel_rfl) (by kernel_rfl) (by kernel_rfl) (fun _ _ _ h => h) (Or.inr ⟨by rfl, rfl⟩) hHeld ?_
      try simp only [Act.put, List.getElem_toArray, List.getElem_cons_succ, List.getElem_cons_zero, List.setIfInBounds_toArray, List.set_cons_zero, List.set_cons_succ]
      refine wpAnyH_take (i := 5) (v := undef) rfl (by kernel_rfl) (by kernel_rfl) (by kernel_rfl) (fun _ _ _ h => h) (Or.inr ⟨by rfl, rfl⟩) hHeld ?_
      try simp only [Act.put, List.getElem_toArray, List.getElem_cons_succ, List.getElem_cons_zero, List.setIfInBounds_toArray, List.set_cons_zero, List.set_cons_succ]
      refine wpAnyH_take (i := 6) (v := undef) rfl (by kernel_rfl) (by kernel_rfl) (by kernel_rfl) (fun _ _ _ h => h) (Or.inr ⟨by rfl, rfl⟩) hHeld ?_
      try simp only [Act.put, List.getElem_toArray, List.getElem_cons_succ, List.getElem_cons_zero, List.setIfInBounds_toArray, List.set_cons_zero, List.set_cons_succ]
      refine wpAnyH_take (i := 7) (v := undef) rfl (by kernel_rfl) (by kernel_rfl) (by kernel_rfl) (fun _ _ _ h => h) (Or.inr ⟨by rfl, rfl⟩) hHeld ?_
      try simp only [Act.put, List.getElem_toArray, List.getElem_cons_succ, List.getElem_cons_zero, List.setIfInBounds_toArray, List.set_cons_zero, List.set_cons_succ]
      refine wpAnyH_take (i := 8) (v := undef) rfl (by kernel_rfl) (by kernel_rfl) (by kernel_rfl) (fun _ _ _ h => h) (Or.inr ⟨by rfl, rfl⟩) hHeld ?_
      try simp only [Act.put, List.getElem_toArray, List.getElem_cons_succ, List.getElem_cons_zero, List.setIfInBounds_toArray, List.set_cons_zero, List.set_cons_succ]
      refine wpAnyH_take (i := 9) (v := undef) rfl (by kernel_rfl) (by kernel_rfl) (by kernel_rfl) (fun _ _ _ h => h) (Or.inr ⟨by rfl, rfl⟩) hHeld ?_
      try simp only [Act.put, List.getElem_toArray, List.getElem_cons_succ, List.getElem_cons_zero, List.setIfInBounds_toArray, List.set_cons_zero, List.set_cons_succ]
      refine wpAnyH_take (i := 10) (v := undef) rfl (by kernel_rfl) (by kernel_rfl) (by kernel_rfl) (fun _ _ _ h => h) (Or.inr ⟨by rfl, rfl⟩) hHeld ?_
      try simp only [Act.put, List.getElem_toArray, List.getElem_cons_succ, List.getElem_cons_zero, List.setIfInBounds_toArray, List.set_cons_zero, List.set_cons_succ]
      refine wpAnyH_take (i := 11) (v := undef) rfl (by kernel_rfl) (by kernel_rfl) (by kernel_rfl) (fun _ _ _ h => h) (Or.inr ⟨by rfl, rfl⟩) hHeld ?_
      try simp only [Act.put, List.getElem_toArray, List.getElem_cons_succ, List.getElem_cons_zero, List.setIfInBounds_toArray, List.set_cons_zero, List.set_cons_succ]
      refine wpAnyH_take (i := 12) (v := undef) rfl (by kernel_rfl) (by kernel_rfl) (by kernel_rfl) (fun _ _ _ h => h) (Or.inr ⟨by rfl, rfl⟩) hHeld ?_
      try simp only [Act.put, List.getElem_toArray, List.getElem_cons_succ, List.getElem_cons_zero, List.setIfInBounds_toArray, List.set_cons_zero, List.set_cons_succ]
      refine wpAnyH_take (i := 13) (v := undef) rfl (by kernel_rfl) (by kernel_rfl) (by kernel_rfl) (fun _ _ _ h => h) (Or.inr ⟨by rfl, rfl⟩) hHeld ?_
      try simp only [Act.put, List.getElem_toArray, List.getElem_cons_succ, List.getElem_cons_zero, List.setIfInBounds_toArray, List.set_cons_zero, List.set_cons_succ]
      refine wpAnyH_take (i := 14) (v := undef) rfl (by kernel_rfl) (by kernel_rfl) (by kernel_rfl) (fun _ _ _ h => h) (Or.inr ⟨by rfl, rfl⟩) hHeld ?_
      try simp only [Act.put, List.getElem_toArray, List.getElem_cons_succ, List.getElem_cons_zero, List.setIfInBounds_toArray, List.set_cons_zero, List.set_cons_succ]
      refine wpAnyH_take (i := 15) (v := ?_) rfl (by kernel_rfl) (by kernel_rfl) (by kernel_rfl) (fun _ _ _ h => h) (Or.inl ⟨by rfl, ?_⟩) hHeld ?_
      rotate_left
      · intro w' hSw; try dsimp only at hSw
        go_simp; try (with_reducible rfl)
      try simp only [Act.put, List.getElem_toArray, List.getElem_cons_succ, List.getElem_cons_zero, List.setIfInBounds_toArray, List.set_cons_zero, List.set_cons_succ]
      refine wpAnyH_done (by kernel_rfl) ?_ _
      refine NoBad.normal ?_
      gi_wp2
      have m8 := (h8.set (.int .i64 (x.1 : Int))).other (show w.heap.size + 2 ≠ w.heap.size + 3 by omega) (.bool true)
      have m9 := (h9.other (show w.heap.size + 3 ≠ w.heap.size + 2 by omega) (.int .i64 (x.1 : Int))).set (.bool true)
      have m3 := (h3.setOther ⟨w.heap.size + 2, 0, none⟩ (.int .i64 (x.1 : Int)) (show w.heap.size ≠ w.heap.size + 2 by omega)).setOther ⟨w.heap.size + 3, 0, none⟩ (.bool true) (show w.heap.size ≠ w.heap.size + 3 by omega)
      have m5 := (h5.other (show w.heap.size + 1 ≠ w.heap.size + 2 by omega) (.int .i64 (x.1 : Int))).other (show w.heap.size + 1 ≠ w.heap.size + 3 by omega) (.bool true)
      have mB := (hB.setCell (p := ⟨w.heap.size + 2, 0, none⟩) (by show w.heap.size ≤ w.heap.size + 2; omega) (.int .i64 (x.1 : Int))).setCell (p := ⟨w.heap.size + 3, 0, none⟩) (by show w.heap.size ≤ w.heap.size + 3; omega) (.bool true)
      have mK := ((KpK.refl Bs p1 W').setCell (.int .i64 (x.1 : Int)) hk8 hj8).setCell (.bool true) hk9 hj9
      have mO : KeepsOthers W' ((W'.setCell ⟨w.heap.size + 2, 0, none⟩ (.int .i64 (x.1 : Int))).setCell ⟨w.heap.size + 3, 0, none⟩ (.bool true)) := (KeepsOthers.setCell _ _ _).trans (KeepsOthers.setCell _ _ _)
      exact ⟨mO.trans (KeepsOthers.drew _), mK, by rw [HS.out]; exact m8, by rw [HS.out]; exact m9, m3, m5, mB.drew⟩
    | some b =>
      rw [ho] at g8 g9 HP
      replace g9 : W'.cell? ⟨w.heap.size + 3, 0, none⟩ = some (.bool true) := g9
      replace g8 : W'.cell? ⟨w.heap.size + 2, 0, none⟩ = some (.int .i64 (b.1 : Int)) := g8
      have hbm : b.1 < m := Nat.lt_of_lt_of_le b.2 hmn
      have gb := hcq b.1 hbm
      have hb1 : (b.1 : Int) < (m : Int) := by omega
      cases hah : isMore (eI W x.1) (eI W b.1) with
      | true =>
        have HS : Hid (pickK isMore W (pre ++ [x]) = some x) := by show _ = _; rw [HP.out]; unfold pickStep; simp only; rw [hah]; rfl
        clear HP
        gi_wp2
        refine wpIn_region_held_round (S := fun X => X.cell? ⟨w.heap.size + 3, 0, none⟩ = some (.bool true) ∧ X.cell? ⟨w.heap.size + 2, 0, none⟩ = some (.int .i64 (b.1 : Int)) ∧ X.cell? ⟨w.heap.size + 1, 0, none⟩ = some (.func (.func 55) #[] #[]) ∧ X.cell? ⟨w.heap.size, 1, none⟩ = some (.slice (some ⟨bq, oq, none⟩) m d) ∧ X.cell? ⟨bq, oq + x.1, none⟩ = some (.int .i64 (eI W x.1)) ∧ X.cell? ⟨bq, oq + b.1, none⟩ = some (.int .i64 (eI W b.1))) (by kernel_rfl) (by kernel_rfl) ⟨g9, g8, g5, g3, gx, gb⟩ (fun hHeld => ?_)
        refine wpAnyH_take (i := 0) (v := ?_) rfl (by kernel_rfl) (by kernel_rfl) (by kernel_rfl) (fun _ _ _ h => h) (Or.inl ⟨by rfl, ?_⟩) hHeld ?_
        rotate_left
        · intro w' hSw; try dsimp only at hSw
          go_simp; try (with_reducible rfl)
        try simp only [Act.put, List.getElem_toArray, List.getElem_cons_succ, List.getElem_cons_zero, List.setIfInBounds_toArray, List.set_cons_zero, List.set_cons_succ]
        refine wpAnyH_take (i := 1) (v := ?_) rfl (by kernel_rfl) (by kernel_rfl) (by kernel_rfl) (fun _ _ _ h => h) (Or.inl ⟨by rfl, ?_⟩) hHeld ?_
        rotate_left
        · intro w' hSw; try dsimp only at hSw
          go_simp; try (with_reducible rfl)
        try simp only [Act.put, List.getElem_toArray, List.getElem_cons_succ, List.getElem_cons_zero, List.setIfInBounds_toArray, List.set_cons_zero, List.set_cons_succ]
        refine wpAnyH_take (i := 2) (v := ?_) rfl (by kernel_rfl) (by kernel_rfl) (by kernel_rfl) (fun _ _ _ h => h) (Or.inl ⟨by rfl, ?_⟩) hHeld ?_
        rotate_left
        · intro w' hSw; try dsimp only at hSw
          go_simp; try (with_reducible rfl)
        try simp only [Act.put, List.getElem_toArray, List.getElem_cons_succ, List.getElem_cons_zero, List.setIfInBounds_toArray, List.set_cons_zero, List.set_cons_succ]
        refine wpAnyH_take (i := 3) (v := ?_) rfl (by kernel_rfl) (by kernel_rfl) (by kernel_rfl) (fun _ _ _ h => h) (Or.inl ⟨by rfl, ?_⟩) hHeld ?_
        rotate_left
        · intro w' hSw; try dsimp only at hSw
          go_simp; try (with_reducible rfl)
        try simp only [Act.put, List.getElem_toArray, List.getElem_cons_succ, List.getElem_cons_zero, List.setIfInBounds_toArray, List.set_cons_zero, List.set_cons_succ]
        refine wpAnyH_take (i := 4) (v := ?_) rfl (by kernel_rfl) (by kernel_rfl) (by kernel_rfl) (fun _ _ _ h => h) (Or.inl ⟨by rfl, ?_⟩) hHeld ?_
        rotate_left
        · intro w' hSw; try dsimp only at hSw
          go_simp; try (with_reducible rfl)
        try simp only [Act.put, List.getElem_toArray, List.getElem_cons_succ, List.getElem_cons_zero, List.setIfInBounds_toArray, List.set_cons_zero, List.set_cons_succ]
        refine wpAnyH_take (i := 5) (v := ?_) rfl (by kernel_rfl) (by kernel_rfl) (by kernel_rfl) (fun _ _ _ h => h) (Or.inl ⟨by rfl, ?_⟩) hHeld ?_
        rotate_left
        · intro w' hSw; try dsimp only at hSw
          go_simp; try (with_reducible rfl)
        try simp only [Act.put, List.getElem_toArray, List.getElem_cons_succ, List.getElem_cons_zero, List.setIfInBounds_toArray, List.set_cons_zero, List.set_cons_succ]
        refine wpAnyH_take (i := 6) (v := ?_) rfl (by kernel_rfl) (by kernel_rfl) (by kernel_rfl) (fun _ _ _ h => h) (Or.inl ⟨by rfl, ?_⟩) hHeld ?_
        rotate_left
        · intro w' hSw; try dsimp only at hSw
          go_simp; try (with_reducible rfl)
        try simp only [Act.put, List.getElem_toArray, List.getElem_cons_succ, List.getElem_cons_zero, List.setIfInBounds_toArray, List.set_cons_zero, List.set_cons_succ]
        refine wpAnyH_take (i := 7) (v := ?_) rfl (by kernel_rfl) (by kernel_rfl) (by kernel_rfl) (fun _ _ _ h => h) (Or.inl ⟨by rfl, ?_⟩) hHeld ?_
        rotate_left
        · intro w' hSw; try dsimp only at hSw
          go_simp; try (with_reducible rfl)
        try simp only [Act.put, List.getElem_toArray, List.getElem_cons_succ, List.getElem_cons_zero, List.setIfInBounds_toArray, List.set_cons_zero, List.set_cons_succ]
        refine wpAnyH_take (i := 8) (v := ?_) rfl (by kernel_rfl) (by kernel_rfl) (by kernel_rfl) (fun _ _ _ h => h) (Or.inl ⟨by rfl, ?_⟩) hHeld ?_
        rotate_left
        · intro w' hSw; try dsimp only at hSw
          go_simp; try (with_reducible rfl)
        try simp only [Act.put, List.getElem_toArray, List.getElem_cons_succ, List.getElem_cons_zero, List.setIfInBounds_toArray, List.set_cons_zero, List.set_cons_succ]
        refine wpAnyH_take (i := 9) (v := ?_) rfl (by kernel_rfl) (by kernel_rfl) (by kernel_rfl) (fun _ _ _ h => h) (Or.inl ⟨by rfl, ?_⟩) hHeld ?_
        rotate_left
        · intro w' hSw; try dsimp only at hSw
          go_simp; try (with_reducible rfl)
        try simp only [Act.put, List.getElem_toArray, List.getElem_cons_succ, List.getElem_cons_zero, List.setIfInBounds_toArray, List.set_cons_zero, List.set_cons_succ]
        refine wpAnyH_take (i := 10) (v := ?_) rfl (by kernel_rfl) (by kernel_rfl) (by kernel_rfl) (fun _ _ _ h => h) (Or.inl ⟨by rfl, ?_⟩) hHeld ?_
        rotate_left
        · intro w' hSw; try dsimp only at hSw
          go_simp; try (with_reducible rfl)
        try simp only [Act.put, List.getElem_toArray, List.getElem_cons_succ, List.getElem_cons_zero, List.setIfInBounds_toArray, List.set_cons_zero, List.set_cons_succ]
        refine wpAnyH_take (i := 11) (v := ?_) rfl (by kernel_rfl) (by kernel_rfl) (by kernel_rfl) (fun _ _ _ h => h) (Or.inl ⟨by rfl, ?_⟩) hHeld ?_
        rotate_left
        · intro w' hSw; try dsimp only at hSw
          go_simp; try (with_reducible rfl)
        try simp only [Act.put, List.getElem_toArray, List.getElem_cons_succ, List.getElem_cons_zero, List.setIfInBounds_toArray, List.set_cons_zero, List.set_cons_succ]
        refine wpAnyH_take (i := 12) (v := ?_) rfl (by kernel_rfl) (by kernel_rfl) (by kernel_rfl) (fun _ _ _ h => h) (Or.inl ⟨by rfl, ?_⟩) hHeld ?_
        rotate_left
        · intro w' hSw; try dsimp only at hSw
          go_simp; try (with_reducible rfl)
        try simp only [Act.put, List.getElem_toArray, List.getElem_cons_succ, List.getElem_cons_zero, List.setIfInBounds_toArray, List.set_cons_zero, List.set_cons_succ]
        refine wpAnyH_take (i := 13) (v := ?_) rfl (by kernel_rfl) (by kernel_rfl) (by kernel_rfl) (fun _ _ _ h => h) (Or.inl ⟨by rfl, ?_⟩) hHeld ?_
        rotate_left
        · intro w' hSw; try dsimp only at hSw
          go_simp; try (with_reducible rfl)
        try simp only [Act.put, List.getElem_toArray, List.getElem_cons_succ, List.getElem_cons_zero, List.setIfInBounds_toArray, List.set_cons_zero, List.set_cons_succ]
        refine wpAnyH_ready (rs := [14]) (by kernel_rfl) (by simp) ?_
        refine AllReadyH.cons rfl (fun K hK => ?_) AllReadyH.nil
        go_simp
        refine (more_any _ _ _).mono ?_
        rintro e w2 ⟨rfl, hw2⟩
        have hw3 := hw2.symm; subst hw3; clear hw2
        have hah2 : decide _ = true := hah
        rw [hah2]
        try go_wp2_with fail
        refine hK.out _ _ hHeld (fun hHeld => ?_)
        clear hK K
        try simp only [Act.put, List.getElem_toArray, List.getElem_cons_succ, List.getElem_cons_zero, List.setIfInBounds_toArray, List.set_cons_zero, List.set_cons_succ]
        refine wpAnyH_take (i := 15) (v := ?_) rfl (by kernel_rfl) (by kernel_rfl) (by kernel_rfl) (fun _ _ _ h => h) (Or.inl ⟨by rfl, ?_⟩) hHeld ?_
        rotate_left
        · intro w' hSw; try dsimp only at hSw
          go_simp; try (with_reducible rfl)
        try simp only [Act.put, List.getElem_toArray, List.getElem_cons_succ, List.getElem_cons_zero, List.setIfInBounds_toArray, List.set_cons_zero, List.set_cons_succ]
        refine wpAnyH_done (by kernel_rfl) ?_ _
        refine NoBad.normal ?_
        gi_wp2
        have m8 := (h8.set (.int .i64 (x.1 : Int))).other (show w.heap.size + 2 ≠ w.heap.size + 3 by omega) (.bool true)
        have m9 := (h9.other (show w.heap.size + 3 ≠ w.heap.size + 2 by omega) (.int .i64 (x.1 : Int))).set (.bool true)
        have m3 := (h3.setOther ⟨w.heap.size + 2, 0, none⟩ (.int .i64 (x.1 : Int)) (show w.heap.size ≠ w.heap.size + 2 by omega)).setOther ⟨w.heap.size + 3, 0, none⟩ (.bool true) (show w.heap.size ≠ w.heap.size + 3 by omega)
        have m5 := (h5.other (show w.heap.size + 1 ≠ w.heap.size + 2 by omega) (.int .i64 (x.1 : Int))).other (show w.heap.size + 1 ≠ w.heap.size + 3 by omega) (.bool true)
        have mB := (hB.setCell (p := ⟨w.heap.size + 2, 0, none⟩) (by show w.heap.size ≤ w.heap.size + 2; omega) (.int .i64 (x.1 : Int))).setCell (p := ⟨w.heap.size + 3, 0, none⟩) (by show w.heap.size ≤ w.heap.size + 3; omega) (.bool true)
        have mK := ((KpK.refl Bs p1 W').setCell (.int .i64 (x.1 : Int)) hk8 hj8).setCell (.bool true) hk9 hj9
        have mO : KeepsOthers W' ((W'.setCell ⟨w.heap.size + 2, 0, none⟩ (.int .i64 (x.1 : Int))).setCell ⟨w.heap.size + 3, 0, none⟩ (.bool true)) := (KeepsOthers.setCell _ _ _).trans (KeepsOthers.setCell _ _ _)
        exact ⟨mO.trans (KeepsOthers.drew _), mK, by rw [HS.out]; exact m8, by rw [HS.out]; exact m9, m3, m5, mB.drew⟩
      | false =>
        have HS : Hid (pickK isMore W (pre ++ [x]) = some b) := by show _ = _; rw [HP.out]; unfold pickStep; simp only; rw [hah]; rfl
        clear HP
        gi_wp2
        refine wpIn_region_held_round (S := fun X => X.cell? ⟨w.heap.size + 3, 0, none⟩ = some (.bool true) ∧ X.cell? ⟨w.heap.size + 2, 0, none⟩ = some (.int .i64 (b.1 : Int)) ∧ X.cell? ⟨w.heap.size + 1, 0, none⟩ = some (.func (.func 55) #[] #[]) ∧ X.cell? ⟨w.heap.size, 1, none⟩ = some (.slice (some ⟨bq, oq, none⟩) m d) ∧ X.cell? ⟨bq, oq + x.1, none⟩ = some (.int .i64 (eI W x.1)) ∧ X.cell? ⟨bq, oq + b.1, none⟩ = some (.int .i64 (eI W b.1))) (by kernel_rfl) (by kernel_rfl) ⟨g9, g8, g5, g3, gx, gb⟩ (fun hHeld => ?_)
        refine wpAnyH_take (i := 0) (v := ?_) rfl (by kernel_rfl) (by kernel_rfl) (by kernel_rfl) (fun _ _ _ h => h) (Or.inl ⟨by rfl, ?_⟩) hHeld ?_
        rotate_left
        · intro w' hSw; try dsimp only at hSw
          go_simp; try (with_reducible rfl)
        try simp only [Act.put, List.getElem_toArray, List.getElem_cons_succ, List.getElem_cons_zero, List.setIfInBounds_toArray, List.set_cons_zero, List.set_cons_succ]
        refine wpAnyH_take (i := 1) (v := ?_) rfl (by kernel_rfl) (by kernel_rfl) (by kernel_rfl) (fun _ _ _ h => h) (Or.inl ⟨by rfl, ?_⟩) hHeld ?_
        rotate_left
        · intro w' hSw; try dsimp only at hSw
          go_simp; try (with_reducible rfl)
        try simp only [Act.put, List.getElem_toArray, List.getElem_cons_succ, List.getElem_cons_zero, List.setIfInBounds_toArray, List.set_cons_zero, List.set_cons_succ]
        refine wpAnyH_take (i := 2) (v := ?_) rfl (by kernel_rfl) (by kernel_rfl) (by kernel_rfl) (fun _ _ _ h => h) (Or.inl ⟨by rfl, ?_⟩) hHeld ?_
        rotate_left
        · intro w' hSw; try dsimp only at hSw
          go_simp; try (with_reducible rfl)
        try simp only [Act.put, List.getElem_toArray, List.getElem_cons_succ, List.getElem_cons_zero, List.setIfInBounds_toArray, List.set_cons_zero, List.set_cons_succ]
        refine wpAnyH_take (i := 3) (v := ?_) rfl (by kernel_rfl) (by kernel_rfl) (by kernel_rfl) (fun _ _ _ h => h) (Or.inl ⟨by rfl, ?_⟩) hHeld ?_
        rotate_left
        · intro w' hSw; try dsimp only at hSw
          go_simp; try (with_reducible rfl)
        try simp only [Act.put, List.getElem_toArray, List.getElem_cons_succ, List.getElem_cons_zero, List.setIfInBounds_toArray, List.set_cons_zero, List.set_cons_succ]
        refine wpAnyH_take (i := 4) (v := ?_) rfl (by kernel_rfl) (by kernel_rfl) (by kernel_rfl) (fun _ _ _ h => h) (Or.inl ⟨by rfl, ?_⟩) hHeld ?_
        rotate_left
        · intro w' hSw; try dsimp only at hSw
          go_simp; try (with_reducible rfl)
        try simp only [Act.put, List.getElem_toArray, List.getElem_cons_succ, List.getElem_cons_zero, List.setIfInBounds_toArray, List.set_cons_zero, List.set_cons_succ]
        refine wpAnyH_take (i := 5) (v := ?_) rfl (by kernel_rfl) (by kernel_rfl) (by kernel_rfl) (fun _ _ _ h => h) (Or.inl ⟨by rfl, ?_⟩) hHeld ?_
        rotate_left
        · intro w' hSw; try dsimp only at hSw
          go_simp; try (with_reducible rfl)
        try simp only [Act.put, List.getElem_toArray, List.getElem_cons_succ, List.getElem_cons_zero, List.setIfInBounds_toArray, List.set_cons_zero, List.set_cons_succ]
        refine wpAnyH_take (i := 6) (v := ?_) rfl (by kernel_rfl) (by kernel_rfl) (by kernel_rfl) (fun _ _ _ h => h) (Or.inl ⟨by rfl, ?_⟩) hHeld ?_
        rotate_left
        · intro w' hSw; try dsimp only at hSw
          go_simp; try (with_reducible rfl)
        try simp only [Act.put, List.getElem_toArray, List.getElem_cons_succ, List.getElem_cons_zero, List.setIfInBounds_toArray, List.set_cons_zero, List.set_cons_succ]
        refine wpAnyH_take (i := 7) (v := ?_) rfl (by kernel_rfl) (by kernel_rfl) (by kernel_rfl) (fun _ _ _ h => h) (Or.inl ⟨by rfl, ?_⟩) hHeld ?_
        rotate_left
        · intro w' hSw; try dsimp only at hSw
          go_simp; try (with_reducible rfl)
        try simp only [Act.put, List.getElem_toArray, List.getElem_cons_succ, List.getElem_cons_zero, List.setIfInBounds_toArray, List.set_cons_zero, List.set_cons_succ]
        refine wpAnyH_take (i := 8) (v := ?_) rfl (by kernel_rfl) (by kernel_rfl) (by kernel_rfl) (fun _ _ _ h => h) (Or.inl ⟨by rfl, ?_⟩) hHeld ?_
        rotate_left
        · intro w' hSw; try dsimp only at hSw
          go_simp; try (with_reducible rfl)
        try simp only [Act.put, List.getElem_toArray, List.getElem_cons_succ, List.getElem_cons_zero, List.setIfInBounds_toArray, List.set_cons_zero, List.set_cons_succ]
        refine wpAnyH_take (i := 9) (v := ?_) rfl (by kernel_rfl) (by kernel_rfl) (by kernel_rfl) (fun _ _ _ h => h) (Or.inl ⟨by rfl, ?_⟩) hHeld ?_
        rotate_left
        · intro w' hSw; try dsimp only at hSw
          go_simp; try (with_reducible rfl)
        try simp only [Act.put, List.getElem_toArray, List.getElem_cons_succ, List.getElem_cons_zero, List.setIfInBounds_toArray, List.set_cons_zero, List.set_cons_succ]
        refine wpAnyH_take (i := 10) (v := ?_) rfl (by kernel_rfl) (by kernel_rfl) (by kernel_rfl) (fun _ _ _ h => h) (Or.inl ⟨by rfl, ?_⟩) hHeld ?_
        rotate_left
        · intro w' hSw; try dsimp only at hSw
          go_simp; try (with_reducible rfl)
        try simp only [Act.put, List.getElem_toArray, List.getElem_cons_succ, List.getElem_cons_zero, List.setIfInBounds_toArray, List.set_cons_zero, List.set_cons_succ]
        refine wpAnyH_take (i := 11) (v := ?_) rfl (by kernel_rfl) (by kernel_rfl) (by kernel_rfl) (fun _ _ _ h => h) (Or.inl ⟨by rfl, ?_⟩) hHeld ?_
        rotate_left
        · intro w' hSw; try dsimp only at hSw
          go_simp; try (with_reducible rfl)
        try simp only [Act.put, List.getElem_toArray, List.getElem_cons_succ, List.getElem_cons_zero, List.setIfInBounds_toArray, List.set_cons_zero, List.set_cons_succ]
        refine wpAnyH_take (i := 12) (v := ?_) rfl (by kernel_rfl) (by kernel_rfl) (by kernel_rfl) (fun _ _ _ h => h) (Or.inl ⟨by rfl, ?_⟩) hHeld ?_
        rotate_left
        · intro w' hSw; try dsimp only at hSw
          go_simp; try (with_reducible rfl)
        try simp only [Act.put, List.getElem_toArray, List.getElem_cons_succ, List.getElem_cons_zero, List.setIfInBounds_toArray, List.set_cons_zero, List.set_cons_succ]
        refine wpAnyH_take (i := 13) (v := ?_) rfl (by kernel_rfl) (by kernel_rfl) (by kernel_rfl) (fun _ _ _ h => h) (Or.inl ⟨by rfl, ?_⟩) hHeld ?_
        rotate_left
        · intro w' hSw; try dsimp only at hSw
          go_simp; try (with_reducible rfl)
        try simp only [Act.put, List.getElem_toArray, List.getElem_cons_succ, List.getElem_cons_zero, List.setIfInBounds_toArray, List.set_cons_zero, List.set_cons_succ]
        refine wpAnyH_ready (rs := [14]) (by kernel_rfl) (by simp) ?_
        refine AllReadyH.cons rfl (fun K hK => ?_) AllReadyH.nil
        go_simp
        refine (more_any _ _ _).mono ?_
        rintro e w2 ⟨rfl, hw2⟩
        have hw3 := hw2.symm; subst hw3; clear hw2
        have hah2 : decide _ = false := hah
        rw [hah2]
        try go_wp2_with fail
        refine hK.out _ _ hHeld (fun hHeld => ?_)
        clear hK K
        try simp only [Act.put, List.getElem_toArray, List.getElem_cons_succ, List.getElem_cons_zero, List.setIfInBounds_toArray, List.set_cons_zero, List.set_cons_succ]
        refine wpAnyH_take (i := 15) (v := ?_) rfl (by kernel_rfl) (by kernel_rfl) (by kernel_rfl) (fun _ _ _ h => h) (Or.inl ⟨by rfl, ?_⟩) hHeld ?_
        rotate_left
        · intro w' hSw; try dsimp only at hSw
          go_simp; try (with_reducible rfl)
        try simp only [Act.put, List.getElem_toArray, List.getElem_cons_succ, List.getElem_cons_zero, List.setIfInBounds_toArray, List.set_cons_zero, List.set_cons_succ]
        refine wpAnyH_done (by kernel_rfl) ?_ _
        refine NoBad.normal ?_
        gi_wp2
        exact ⟨KeepsOthers.drew _, KpK.refl _ _ _, by rw [HS.out, ← ho]; exact h8, by rw [HS.out, ← ho]; exact h9, h3, h5, hB.drew⟩
theorem pickMore_any (p q : Option Addr) (n c m d : Nat) (R W : List Int) (role : Int) (w : World) (hR : InI w p n c R) (hW : InI w q m d W) :
    Calls Try.prog 51 #[.agg #[.slice p n c, .slice q m d], .int .i64 role, .func (.func 55) #[] #[]] w fun e w' => e = .returned (.tuple #[.int .i64 (bestN (pickK isMore W (allK R W role))), .bool (pickK isMore W (allK R W role)).isSome]) ∧ Below w.heap.size w w' :=
  (callsIn_wide (n := 4)).1 (pickMore_in 4 (Nat.le_refl _) p q n c m d R W role w hR hW)
end Go.Proofs.Ytigkfmdhmonjlaa
