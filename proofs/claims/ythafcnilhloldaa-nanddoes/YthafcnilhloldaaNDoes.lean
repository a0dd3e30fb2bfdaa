/-
  What the law's does does: one call on a chip.
-/
import Derived.Test.YthafcnilhloldaaNErase2
namespace Go.Proofs.Ythafcnilhloldaa
open Go.RowKit Go.Shelf
/-- A call. -/
structure CallS where
  od : Int
  ob : Int
  op : Int
  nx : Bool
  f : Nat
def callV (o : CallS) : List Value := [.int .i64 o.od, .int .i64 o.ob, .int .i64 o.op, .bool o.nx, .int .u8 (o.f : Int)]
def pgOf (s : St) (o : CallS) : Int := if o.nx then lkN s o.ob else o.op
def readX (s : St) (b p : Int) : List Nat := if reachE s.nb s.np s.on b p = 0 then readP s b.toNat p.toNat else fillP 0
def doesE (s : St) (o : CallS) : Int :=
  if o.od = 0 then progE s o.ob (pgOf s o) else if o.od = 1 then eraseE s o.ob else if o.od = 2 then reachE s.nb s.np s.on o.ob (pgOf s o) else 0
def doesX (s : St) (o : CallS) : List Nat := if o.od = 2 then readX s o.ob (pgOf s o) else fillP 0
def doesSt (s : St) (o : CallS) : St :=
  if o.od = 0 then progSt s o.ob (pgOf s o) (fillP o.f) else if o.od = 1 then eraseSt s o.ob else if o.od = 3 then { s with on := true } else s
theorem readX_isP {w : World} {c : Nat} {s : St} {bb : Nat} {PV : Nat → Value} (h : ChipIn w c s bb PV) (b p : Int) : IsP (readX s b p) := by
  unfold readX
  split
  · unfold readP
    split
    · rename_i k hk
      exact getD_isP (h.pg _ k hk) _
    · exact isP_fill 255 (by omega)
  · exact isP_fill 0 (by omega)
theorem read_uni (c : Nat) (s : St) (bb : Nat) (PV : Nat → Value) (b p : Int) (w : World) (h : ChipIn w c s bb PV) :
    Calls Try.prog 32 #[.pointer (some ⟨c, 0, none⟩), .int .i64 b, .int .i64 p] w fun e w' => e = .returned (.tuple #[.agg (vals (readX s b p)).toArray, .int .i64 (reachE s.nb s.np s.on b p)]) ∧ Below w.heap.size w w' := by
  refine (read_any c s bb PV b p w h).mono ?_
  rintro e w' ⟨rfl, hb⟩
  refine ⟨?_, hb⟩
  unfold readX emptyPage
  split <;> rfl
theorem After.of {w w0 w1 : World} {c : Nat} {s s' : St} {bb : Nat} {PV : Nat → Value} (hb : Below w.heap.size w w0) (h : After w0 w1 c s s' bb PV) : After w w1 c s s' bb PV := by
  obtain ⟨PV', hC, hf, hk⟩ := h
  exact ⟨PV', hC, fun k e => (hf k e).imp id (fun e => Nat.le_trans hb.size e), (Keep.of_below hb).trans hk (fun _ _ e => e)⟩
theorem After.then {w w0 w1 : World} {c : Nat} {s s' : St} {bb : Nat} {PV : Nat → Value} (h : After w w0 c s s' bb PV) (hb : Below w0.heap.size w0 w1) : After w w1 c s s' bb PV := by
  obtain ⟨PV', hC, hf, hk⟩ := h
  exact ⟨PV', hC.below hb, hf, hk.trans (Keep.of_below (S := fun _ => False) hb) (fun _ _ e => e.elim)⟩
theorem keep_same {w0 w1 : World} {g : Nat} {t : TypeId} {cs : List Value} (ht : Turned w0 w1 g) (h0 : Blk w0 g t cs) (h1 : Blk w1 g t cs) : Keep (fun _ => False) w0 w1 :=
  ⟨ht.os, ht.tape, ht.output, by rw [ht.size]; exact Nat.le_refl _, fun k _ _ => by
    by_cases e : k = g
    · subst e; exact Eq.trans h1 (Eq.symm h0)
    · exact ht.block k e⟩
theorem After.same {w w0 w1 : World} {c : Nat} {s s' : St} {bb : Nat} {PV : Nat → Value} (h : After w w0 c s s' bb PV) (hk : Keep (fun _ => False) w0 w1) : After w w1 c s s' bb PV := by
  obtain ⟨PV', hC, hf, hkk⟩ := h
  exact ⟨PV', hC.keep (S := fun _ => False) hk (fun _ _ e => e.elim) (fun _ _ _ he => he.keep (T := fun _ => False) hk (fun _ _ e => e.elim)), hf, hkk.trans hk (fun _ _ e => e.elim)⟩
theorem After.restart {w : World} {c : Nat} {s : St} {bb : Nat} {PV : Nat → Value} (h : ChipIn w c s bb PV) : After w (w.setCell ⟨c, 5, none⟩ (.bool true)) c s { s with on := true } bb PV :=
  ⟨PV, h.restart, fun _ e => .inl e, (Keep.refl _ w).setCell _ _ (.inl rfl)⟩
theorem Blk.after {w w' : World} {c : Nat} {s s' : St} {bb : Nat} {PV : Nat → Value} {g : Nat} {t : TypeId} {cs : List Value} (hb : Blk w g t cs) (h : After w w' c s s' bb PV) (hg : ¬ fpOf c bb PV s.nb g) : Blk w' g t cs := by
  obtain ⟨_, _, _, hk⟩ := h
  exact hb.keep hk hg
theorem size_two (w : World) (a b : Obj) : ((w.alloc a).alloc b).heap.size = w.heap.size + 2 := by simp
set_option linter.unusedSimpArgs false in
set_option maxRecDepth 100000 in
set_option maxHeartbeats 4000000 in
theorem does_any (c : Nat) (s : St) (bb : Nat) (PV : Nat → Value) (o : CallS) (w : World) (h : ChipIn w c s bb PV) (ho : s.ops < 4611686018427387904) (hf : o.f < 256) :
    Calls Try.prog 18 #[.pointer (some ⟨c, 0, none⟩), .agg (callV o).toArray] w fun e w' => e = .returned (.tuple #[.agg (vals (doesX s o)).toArray, .int .i64 (doesE s o)]) ∧ After w w' c s (doesSt s o) bb PV := by
  have hz := zeroPage
  have hbp := build_page
  obtain ⟨od, ob, op, nx, f⟩ := o
  unfold callV
  dsimp only at hf ⊢
  cases nx
  · by_cases n0 : od = 0
    · subst n0
      have hb0 : Below w.heap.size w ((w.alloc (.cells #[.int .i64 0, .int .i64 ob, .int .i64 op, .bool false, .int .u8 (f : Int)] 39)).alloc (.cells (vals (fillP 0)).toArray 46)) := bt (below_alloc w _) (below_alloc _ _)
      have hO0 : Blk ((w.alloc (.cells #[.int .i64 0, .int .i64 ob, .int .i64 op, .bool false, .int .u8 (f : Int)] 39)).alloc (.cells (vals (fillP 0)).toArray 46)) w.heap.size 39 [.int .i64 0, .int .i64 ob, .int .i64 op, .bool false, .int .u8 (f : Int)] := (Blk.new' w 39 #[.int .i64 0, .int .i64 ob, .int .i64 op, .bool false, .int .u8 (f : Int)]).alloc _
      have hR0 : Blk ((w.alloc (.cells #[.int .i64 0, .int .i64 ob, .int .i64 op, .bool false, .int .u8 (f : Int)] 39)).alloc (.cells (vals (fillP 0)).toArray 46)) (w.heap.size + 1) 46 (vals (fillP 0)) := by have := Blk.new (w.alloc (.cells #[.int .i64 0, .int .i64 ob, .int .i64 op, .bool false, .int .u8 (f : Int)] 39)) 46 (vals (fillP 0)); rwa [World.size_alloc] at this
      have hfl := fun k (hk : fpOf c bb PV s.nb k) => h.lt hk
      have hq := fun W (hW : ChipIn W c s bb PV) => prog_any c s bb PV ob op (fillP f) W hW (isP_fill f hf) ho
      rw [show doesE s ⟨0, ob, op, false, f⟩ = progE s ob op from rfl, show doesSt s ⟨0, ob, op, false, f⟩ = progSt s ob op (fillP f) from rfl, show doesX s ⟨0, ob, op, false, f⟩ = fillP 0 from rfl]
      have hbn := hb0
      have hR1 := hR0
      have o0 := hO0.cell' (i := 0) rfl
      have o1 := hO0.cell' (i := 1) rfl
      have o2 := hO0.cell' (i := 2) rfl
      have o3 := hO0.cell' (i := 3) rfl
      have o4 := hO0.cell' (i := 4) rfl
      go_enter Try.func18, Try.ntmps18
      go_wp2_with fail
      have hOn := hO0
      have hCn := h.below hbn
      have sn := hbn.size
      have hlR := hR1.lt
      generalize ((w.alloc (.cells #[.int .i64 0, .int .i64 ob, .int .i64 op, .bool false, .int .u8 (f : Int)] 39)).alloc (.cells (vals (fillP 0)).toArray 46)) = Wn at *
      replace hOn : Blk Wn w.heap.size 39 [.int .i64 0, .int .i64 ob, .int .i64 op, .bool false, .int .u8 (f : Int)] := hOn
      refine wp_region_noPanic ?_
      refine wp_region_held_drew (S := fun w' => Blk w' w.heap.size 39 [.int .i64 0, .int .i64 ob, .int .i64 op, .bool false, .int .u8 (f : Int)] ∧ Blk w' (w.heap.size + 1) 46 (vals (fillP 0))) (by kernel_rfl) ⟨hOn.drew, hR1.drew⟩ (fun hHeld => ?_)
      refine wpAnyH_take (i := 0) (v := ?_) rfl (by kernel_rfl) (by kernel_rfl) (by kernel_rfl) (fun _ _ _ h => h) (Or.inl ⟨by rfl, ?_⟩) hHeld ?_
      rotate_left
      · intro w hSw; try dsimp only at hSw
        go_simp; try (with_reducible rfl)
      try simp only [Act.put, List.getElem_toArray, List.getElem_cons_succ, List.getElem_cons_zero, List.setIfInBounds_toArray, List.set_cons_zero, List.set_cons_succ]
      refine wpAnyH_take (i := 1) (v := ?_) rfl (by kernel_rfl) (by kernel_rfl) (by kernel_rfl) (fun _ _ _ h => h) (Or.inl ⟨by rfl, ?_⟩) hHeld ?_
      rotate_left
      · intro w hSw; try dsimp only at hSw
        go_simp; try (with_reducible rfl)
      try simp only [Act.put, List.getElem_toArray, List.getElem_cons_succ, List.getElem_cons_zero, List.setIfInBounds_toArray, List.set_cons_zero, List.set_cons_succ]
      refine wpAnyH_take (i := 2) (v := ?_) rfl (by kernel_rfl) (by kernel_rfl) (by kernel_rfl) (fun _ _ _ h => h) (Or.inl ⟨by rfl, ?_⟩) hHeld ?_
      rotate_left
      · intro w hSw; try dsimp only at hSw
        go_simp; try (with_reducible rfl)
      try simp only [Act.put, List.getElem_toArray, List.getElem_cons_succ, List.getElem_cons_zero, List.setIfInBounds_toArray, List.set_cons_zero, List.set_cons_succ]
      refine wpAnyH_take (i := 3) (v := ?_) rfl (by kernel_rfl) (by kernel_rfl) (by kernel_rfl) (fun _ _ _ h => h) (Or.inl ⟨by rfl, ?_⟩) hHeld ?_
      rotate_left
      · intro w hSw; try dsimp only at hSw
        have z := hSw.1.cell' (i := 1) rfl
        go_simp; try (with_reducible rfl)
      try simp only [Act.put, List.getElem_toArray, List.getElem_cons_succ, List.getElem_cons_zero, List.setIfInBounds_toArray, List.set_cons_zero, List.set_cons_succ]
      refine wpAnyH_take (i := 4) (v := ?_) rfl (by kernel_rfl) (by kernel_rfl) (by kernel_rfl) (fun _ _ _ h => h) (Or.inl ⟨by rfl, ?_⟩) hHeld ?_
      rotate_left
      · intro w hSw; try dsimp only at hSw
        go_simp; try (with_reducible rfl)
      try simp only [Act.put, List.getElem_toArray, List.getElem_cons_succ, List.getElem_cons_zero, List.setIfInBounds_toArray, List.set_cons_zero, List.set_cons_succ]
      refine wpAnyH_take (i := 5) (v := ?_) rfl (by kernel_rfl) (by kernel_rfl) (by kernel_rfl) (fun _ _ _ h => h) (Or.inl ⟨by rfl, ?_⟩) hHeld ?_
      rotate_left
      · intro w hSw; try dsimp only at hSw
        have z := hSw.1.cell' (i := 2) rfl
        go_simp; try (with_reducible rfl)
      try simp only [Act.put, List.getElem_toArray, List.getElem_cons_succ, List.getElem_cons_zero, List.setIfInBounds_toArray, List.set_cons_zero, List.set_cons_succ]
      refine wpAnyH_take (i := 6) (v := ?_) rfl (by kernel_rfl) (by kernel_rfl) (by kernel_rfl) (fun _ _ _ h => h) (Or.inl ⟨by rfl, ?_⟩) hHeld ?_
      rotate_left
      · intro w hSw; try dsimp only at hSw
        go_simp; try (with_reducible rfl)
      try simp only [Act.put, List.getElem_toArray, List.getElem_cons_succ, List.getElem_cons_zero, List.setIfInBounds_toArray, List.set_cons_zero, List.set_cons_succ]
      refine wpAnyH_take (i := 7) (v := ?_) rfl (by kernel_rfl) (by kernel_rfl) (by kernel_rfl) (fun _ _ _ h => h) (Or.inl ⟨by rfl, ?_⟩) hHeld ?_
      rotate_left
      · intro w hSw; try dsimp only at hSw
        have z := hSw.1.cell' (i := 4) rfl
        go_simp; try (with_reducible rfl)
      try simp only [Act.put, List.getElem_toArray, List.getElem_cons_succ, List.getElem_cons_zero, List.setIfInBounds_toArray, List.set_cons_zero, List.set_cons_succ]
      refine wpAnyH_ready (rs := [8]) (by kernel_rfl) (by simp) ?_
      refine AllReadyH.cons rfl (fun K hK => ?_) AllReadyH.nil
      go_simp
      refine (page_any f _).mono ?_
      rintro e Y1 ⟨rfl, y1⟩
      have hby := hbn.drew.trans (y1.mono sn)
      try go_wp2_with fail
      refine hK.out _ _ ⟨hHeld.1.kept y1, hHeld.2.kept y1⟩ (fun hHeld => ?_)
      clear hK K
      try simp only [Act.put, List.getElem_toArray, List.getElem_cons_succ, List.getElem_cons_zero, List.setIfInBounds_toArray, List.set_cons_zero, List.set_cons_succ]
      refine wpAnyH_ready (rs := [9]) (by kernel_rfl) (by simp) ?_
      refine AllReadyH.cons rfl (fun K hK => ?_) AllReadyH.nil
      go_simp
      refine (hq _ (h.below hby)).mono ?_
      rintro e Y2 ⟨rfl, hA2⟩
      have hO2 := hHeld.1.after hA2 (fun e => by have := hfl _ e; omega)
      have hR2 := hHeld.2.after hA2 (fun e => by have := hfl _ e; omega)
      try go_wp2_with fail
      refine hK.out _ _ ⟨hO2, hR2⟩ (fun hHeld => ?_)
      clear hK K
      try simp only [Act.put, List.getElem_toArray, List.getElem_cons_succ, List.getElem_cons_zero, List.setIfInBounds_toArray, List.set_cons_zero, List.set_cons_succ]
      refine wpAnyH_ready (rs := [10]) (by kernel_rfl) (by simp) ?_
      refine AllReadyH.cons rfl (fun K hK => ?_) AllReadyH.nil
      rw [if_pos (by rfl)]
      refine wp_store_blk 46 (.tmp 4) _ rfl _ _ (vals (fillP 0)) rfl rfl hHeld.2 (Nat.le_of_eq (Nat.zero_add _)) (sizeP (fillP_length _)) (vals_one _) ?_
      intro w9 h9 ht9
      rw [whole_row rfl] at h9
      refine hK.out _ _ ⟨hO2.keep (S := fun k => k = w.heap.size + 1) (Keep.of_turned ht9 rfl) (by omega), h9⟩ (fun hHeld => ?_)
      clear hK K
      try simp only [Act.put, List.getElem_toArray, List.getElem_cons_succ, List.getElem_cons_zero, List.setIfInBounds_toArray, List.set_cons_zero, List.set_cons_succ]
      refine wpAnyH_take (i := 11) (v := ?_) rfl (by kernel_rfl) (by kernel_rfl) (by kernel_rfl) (fun _ _ _ h => h) (Or.inl ⟨by rfl, ?_⟩) hHeld ?_
      rotate_left
      · intro w hSw; try dsimp only at hSw
        go_simp; try (with_reducible rfl)
      try simp only [Act.put, List.getElem_toArray, List.getElem_cons_succ, List.getElem_cons_zero, List.setIfInBounds_toArray, List.set_cons_zero, List.set_cons_succ]
      refine wpAnyH_done (by kernel_rfl) ?_ _
      refine NoPanic.normal ?_
      go_wp2_with fail
      exact ret_pageE Try.results18 rfl h9 (fillP_length _) rfl rfl ⟨rfl, (After.of hby hA2).same (keep_same ht9 hR2 h9)⟩
    · by_cases n1 : od = 1
      · subst n1
        have hb0 : Below w.heap.size w ((w.alloc (.cells #[.int .i64 1, .int .i64 ob, .int .i64 op, .bool false, .int .u8 (f : Int)] 39)).alloc (.cells (vals (fillP 0)).toArray 46)) := bt (below_alloc w _) (below_alloc _ _)
        have hO0 : Blk ((w.alloc (.cells #[.int .i64 1, .int .i64 ob, .int .i64 op, .bool false, .int .u8 (f : Int)] 39)).alloc (.cells (vals (fillP 0)).toArray 46)) w.heap.size 39 [.int .i64 1, .int .i64 ob, .int .i64 op, .bool false, .int .u8 (f : Int)] := (Blk.new' w 39 #[.int .i64 1, .int .i64 ob, .int .i64 op, .bool false, .int .u8 (f : Int)]).alloc _
        have hR0 : Blk ((w.alloc (.cells #[.int .i64 1, .int .i64 ob, .int .i64 op, .bool false, .int .u8 (f : Int)] 39)).alloc (.cells (vals (fillP 0)).toArray 46)) (w.heap.size + 1) 46 (vals (fillP 0)) := by have := Blk.new (w.alloc (.cells #[.int .i64 1, .int .i64 ob, .int .i64 op, .bool false, .int .u8 (f : Int)] 39)) 46 (vals (fillP 0)); rwa [World.size_alloc] at this
        have hfl := fun k (hk : fpOf c bb PV s.nb k) => h.lt hk
        have hq := fun W (hW : ChipIn W c s bb PV) => erase_any c s bb PV ob W hW ho
        rw [show doesE s ⟨1, ob, op, false, f⟩ = eraseE s ob from rfl, show doesSt s ⟨1, ob, op, false, f⟩ = eraseSt s ob from rfl, show doesX s ⟨1, ob, op, false, f⟩ = fillP 0 from rfl]
        have hbn := hb0
        have hR1 := hR0
        have o0 := hO0.cell' (i := 0) rfl
        have o1 := hO0.cell' (i := 1) rfl
        have o2 := hO0.cell' (i := 2) rfl
        have o3 := hO0.cell' (i := 3) rfl
        have o4 := hO0.cell' (i := 4) rfl
        go_enter Try.func18, Try.ntmps18
        go_wp2_with (first
          | (go_at_call 15; refine (hq _ (h.below hbn)).mono ?_; rintro e X2 ⟨rfl, hA2⟩; have hR2 := hR1.after hA2 (fun e => by have := hfl _ e; omega))
          | (refine wpList_store_blk rfl 46 (.tmp 4) _ rfl _ _ (vals (fillP 0)) rfl rfl hR2 (Nat.le_of_eq (Nat.zero_add _)) (sizeP (fillP_length _)) (vals_one _) ?_; intro w9 h9 ht9; rw [whole_row rfl] at h9))
        exact ret_pageE Try.results18 rfl h9 (fillP_length _) rfl rfl ⟨rfl, (After.of hbn hA2).same (keep_same ht9 hR2 h9)⟩
      · by_cases n2 : od = 2
        · subst n2
          have hb0 : Below w.heap.size w ((w.alloc (.cells #[.int .i64 2, .int .i64 ob, .int .i64 op, .bool false, .int .u8 (f : Int)] 39)).alloc (.cells (vals (fillP 0)).toArray 46)) := bt (below_alloc w _) (below_alloc _ _)
          have hO0 : Blk ((w.alloc (.cells #[.int .i64 2, .int .i64 ob, .int .i64 op, .bool false, .int .u8 (f : Int)] 39)).alloc (.cells (vals (fillP 0)).toArray 46)) w.heap.size 39 [.int .i64 2, .int .i64 ob, .int .i64 op, .bool false, .int .u8 (f : Int)] := (Blk.new' w 39 #[.int .i64 2, .int .i64 ob, .int .i64 op, .bool false, .int .u8 (f : Int)]).alloc _
          have hR0 : Blk ((w.alloc (.cells #[.int .i64 2, .int .i64 ob, .int .i64 op, .bool false, .int .u8 (f : Int)] 39)).alloc (.cells (vals (fillP 0)).toArray 46)) (w.heap.size + 1) 46 (vals (fillP 0)) := by have := Blk.new (w.alloc (.cells #[.int .i64 2, .int .i64 ob, .int .i64 op, .bool false, .int .u8 (f : Int)] 39)) 46 (vals (fillP 0)); rwa [World.size_alloc] at this
          have hfl := fun k (hk : fpOf c bb PV s.nb k) => h.lt hk
          have hq := fun W (hW : ChipIn W c s bb PV) => read_uni c s bb PV ob op W hW
          rw [show doesE s ⟨2, ob, op, false, f⟩ = reachE s.nb s.np s.on ob op from rfl, show doesSt s ⟨2, ob, op, false, f⟩ = s from rfl, show doesX s ⟨2, ob, op, false, f⟩ = readX s ob op from rfl]
          have HL : Hid ((readX s ob op).length = 288) := (readX_isP h ob op).1
          have hbn := hb0
          have hR1 := hR0
          have o0 := hO0.cell' (i := 0) rfl
          have o1 := hO0.cell' (i := 1) rfl
          have o2 := hO0.cell' (i := 2) rfl
          have o3 := hO0.cell' (i := 3) rfl
          have o4 := hO0.cell' (i := 4) rfl
          go_enter Try.func18, Try.ntmps18
          go_wp2_with (first
            | (go_at_call 32; refine (hq _ (h.below hbn)).mono ?_; rintro e X2 ⟨rfl, hx2⟩; have hR2 := hR1.kept hx2)
            | (refine wpList_store_blk rfl 46 (.tmp 4) _ rfl _ _ (vals (readX s ob op)) rfl rfl hR2 (by rw [vals_length, vals_length, HL.out, fillP_length]; exact Nat.le_of_eq (by first | rfl | simp)) (sizeP HL.out) (vals_one _) ?_; intro w9 h9 ht9; rw [whole_row (by rw [vals_length, vals_length, HL.out, fillP_length])] at h9))
          exact ret_pageE Try.results18 rfl h9 HL.out rfl rfl ⟨rfl, After.refused h (ht9.below (bt hbn hx2) (by omega))⟩
        · by_cases n3 : od = 3
          · subst n3
            have hb0 : Below w.heap.size w ((w.alloc (.cells #[.int .i64 3, .int .i64 ob, .int .i64 op, .bool false, .int .u8 (f : Int)] 39)).alloc (.cells (vals (fillP 0)).toArray 46)) := bt (below_alloc w _) (below_alloc _ _)
            have hO0 : Blk ((w.alloc (.cells #[.int .i64 3, .int .i64 ob, .int .i64 op, .bool false, .int .u8 (f : Int)] 39)).alloc (.cells (vals (fillP 0)).toArray 46)) w.heap.size 39 [.int .i64 3, .int .i64 ob, .int .i64 op, .bool false, .int .u8 (f : Int)] := (Blk.new' w 39 #[.int .i64 3, .int .i64 ob, .int .i64 op, .bool false, .int .u8 (f : Int)]).alloc _
            have hR0 : Blk ((w.alloc (.cells #[.int .i64 3, .int .i64 ob, .int .i64 op, .bool false, .int .u8 (f : Int)] 39)).alloc (.cells (vals (fillP 0)).toArray 46)) (w.heap.size + 1) 46 (vals (fillP 0)) := by have := Blk.new (w.alloc (.cells #[.int .i64 3, .int .i64 ob, .int .i64 op, .bool false, .int .u8 (f : Int)] 39)) 46 (vals (fillP 0)); rwa [World.size_alloc] at this
            have hfl := fun k (hk : fpOf c bb PV s.nb k) => h.lt hk
            rw [show doesE s ⟨3, ob, op, false, f⟩ = 0 from rfl, show doesSt s ⟨3, ob, op, false, f⟩ = { s with on := true } from rfl, show doesX s ⟨3, ob, op, false, f⟩ = fillP 0 from rfl]
            have hbn := hb0
            have hR1 := hR0
            have o0 := hO0.cell' (i := 0) rfl
            have o1 := hO0.cell' (i := 1) rfl
            have o2 := hO0.cell' (i := 2) rfl
            have o3 := hO0.cell' (i := 3) rfl
            have o4 := hO0.cell' (i := 4) rfl
            go_enter Try.func18, Try.ntmps18
            have hrs := fun W (hW : ChipIn W c s bb PV) => hW.chip
            go_wp2_with (first
              | (go_at_call 27; obtain ⟨ep5, el5, ec5, hc5, _⟩ := (h.below hbn).chip; refine (restart_any c _ s.nb s.cr s.on _ (by have := h.nbl; omega) (hc5.cell' (i := 2) rfl) (hc5.cell' (i := 5) rfl) (hc5.frozen 5)).mono ?_; rintro e X2 ⟨rfl, hX2⟩; have hA2 := After.restart (h.below hbn); rw [← hX2] at hA2; clear hX2; have hR2 := hR1.after hA2 (fun e => by have := hfl _ e; omega))
              | (refine wpList_store_blk rfl 46 (.tmp 4) _ rfl _ _ (vals (fillP 0)) rfl rfl hR2 (Nat.le_of_eq (Nat.zero_add _)) (sizeP (fillP_length _)) (vals_one _) ?_; intro w9 h9 ht9; rw [whole_row rfl] at h9))
            exact ret_pageE Try.results18 rfl h9 (fillP_length _) rfl rfl ⟨rfl, (After.of hbn hA2).same (keep_same ht9 hR2 h9)⟩
          · have hb0 : Below w.heap.size w ((w.alloc (.cells #[.int .i64 od, .int .i64 ob, .int .i64 op, .bool false, .int .u8 (f : Int)] 39)).alloc (.cells (vals (fillP 0)).toArray 46)) := bt (below_alloc w _) (below_alloc _ _)
            have hO0 : Blk ((w.alloc (.cells #[.int .i64 od, .int .i64 ob, .int .i64 op, .bool false, .int .u8 (f : Int)] 39)).alloc (.cells (vals (fillP 0)).toArray 46)) w.heap.size 39 [.int .i64 od, .int .i64 ob, .int .i64 op, .bool false, .int .u8 (f : Int)] := (Blk.new' w 39 #[.int .i64 od, .int .i64 ob, .int .i64 op, .bool false, .int .u8 (f : Int)]).alloc _
            have hR0 : Blk ((w.alloc (.cells #[.int .i64 od, .int .i64 ob, .int .i64 op, .bool false, .int .u8 (f : Int)] 39)).alloc (.cells (vals (fillP 0)).toArray 46)) (w.heap.size + 1) 46 (vals (fillP 0)) := by have := Blk.new (w.alloc (.cells #[.int .i64 od, .int .i64 ob, .int .i64 op, .bool false, .int .u8 (f : Int)] 39)) 46 (vals (fillP 0)); rwa [World.size_alloc] at this
            have hfl := fun k (hk : fpOf c bb PV s.nb k) => h.lt hk
            rw [show doesE s ⟨od, ob, op, false, f⟩ = 0 from by simp [doesE, n0, n1, n2], show doesSt s ⟨od, ob, op, false, f⟩ = s from by simp [doesSt, n0, n1, n3], show doesX s ⟨od, ob, op, false, f⟩ = fillP 0 from by simp [doesX, n2]]
            have m0 : (od == 0) = false := by simpa using n0
            have m1 : (od == 1) = false := by simpa using n1
            have m2 : (od == 2) = false := by simpa using n2
            have m3 : (od == 3) = false := by simpa using n3
            have hbn := hb0
            have hR1 := hR0
            have o0 := hO0.cell' (i := 0) rfl
            have o1 := hO0.cell' (i := 1) rfl
            have o2 := hO0.cell' (i := 2) rfl
            have o3 := hO0.cell' (i := 3) rfl
            have o4 := hO0.cell' (i := 4) rfl
            go_enter Try.func18, Try.ntmps18
            go_wp2_with (first
              | (refine wpList_store_blk rfl 46 (.tmp 4) _ rfl _ _ (vals (fillP 0)) rfl rfl hR1 (Nat.le_of_eq (Nat.zero_add _)) (sizeP (fillP_length _)) (vals_one _) ?_; intro w9 h9 ht9; rw [whole_row rfl] at h9))
            exact ret_pageE Try.results18 rfl h9 (fillP_length _) rfl rfl ⟨rfl, After.refused h (ht9.below hbn (by omega))⟩
  · by_cases n0 : od = 0
    · subst n0
      have hb0 : Below w.heap.size w ((w.alloc (.cells #[.int .i64 0, .int .i64 ob, .int .i64 op, .bool true, .int .u8 (f : Int)] 39)).alloc (.cells (vals (fillP 0)).toArray 46)) := bt (below_alloc w _) (below_alloc _ _)
      have hO0 : Blk ((w.alloc (.cells #[.int .i64 0, .int .i64 ob, .int .i64 op, .bool true, .int .u8 (f : Int)] 39)).alloc (.cells (vals (fillP 0)).toArray 46)) w.heap.size 39 [.int .i64 0, .int .i64 ob, .int .i64 op, .bool true, .int .u8 (f : Int)] := (Blk.new' w 39 #[.int .i64 0, .int .i64 ob, .int .i64 op, .bool true, .int .u8 (f : Int)]).alloc _
      have hR0 : Blk ((w.alloc (.cells #[.int .i64 0, .int .i64 ob, .int .i64 op, .bool true, .int .u8 (f : Int)] 39)).alloc (.cells (vals (fillP 0)).toArray 46)) (w.heap.size + 1) 46 (vals (fillP 0)) := by have := Blk.new (w.alloc (.cells #[.int .i64 0, .int .i64 ob, .int .i64 op, .bool true, .int .u8 (f : Int)] 39)) 46 (vals (fillP 0)); rwa [World.size_alloc] at this
      have hfl := fun k (hk : fpOf c bb PV s.nb k) => h.lt hk
      have hq := fun W (hW : ChipIn W c s bb PV) => prog_any c s bb PV ob (lkN s ob) (fillP f) W hW (isP_fill f hf) ho
      rw [show doesE s ⟨0, ob, op, true, f⟩ = progE s ob (lkN s ob) from rfl, show doesSt s ⟨0, ob, op, true, f⟩ = progSt s ob (lkN s ob) (fillP f) from rfl, show doesX s ⟨0, ob, op, true, f⟩ = fillP 0 from rfl]
      have hlk := look_any c s bb PV ob _ (h.below hb0)
      generalize lkW s ob = lw at *
      generalize lkB s ob = lb at *
      generalize lkN s ob = ln at *
      have o3 := hO0.cell' (i := 3) rfl
      go_enter Try.func18, Try.ntmps18
      go_wp2_with (go_at_call 20; refine hlk.mono ?_; rintro e X1 ⟨rfl, hx1⟩; have hO1 := (hO0.kept hx1).alloc (.cells #[.int .i64 lw, .int .i64 ln, .bool lb] 54); have hR1 := ((hR0.kept hx1).alloc (.cells #[.int .i64 lw, .int .i64 ln, .bool lb] 54)).setOther ⟨w.heap.size, 2, none⟩ (.int .i64 ln) (by show w.heap.size + 1 ≠ w.heap.size; omega); have hbn : Below w.heap.size w ((X1.alloc (.cells #[.int .i64 lw, .int .i64 ln, .bool lb] 54)).setCell ⟨w.heap.size, 2, none⟩ (.int .i64 ln)) := (bt (bt hb0 hx1) (below_alloc _ _)).setCell (Nat.le_refl _) _; have hOn := hO1.set 2 (.int .i64 ln); have o0 := hO1.cell' (i := 0) rfl; have o1 := hO1.cell' (i := 1) rfl; have o2 := hO1.cell' (i := 2) rfl; have o4 := hO1.cell' (i := 4) rfl; have f2 := hO1.frozen 2; clear hlk)
      have hCn := h.below hbn
      have sn := hbn.size
      have hlR := hR1.lt
      generalize ((X1.alloc (.cells #[.int .i64 lw, .int .i64 ln, .bool lb] 54)).setCell ⟨w.heap.size, 2, none⟩ (.int .i64 ln)) = Wn at *
      replace hOn : Blk Wn w.heap.size 39 [.int .i64 0, .int .i64 ob, .int .i64 ln, .bool true, .int .u8 (f : Int)] := hOn
      refine wp_region_noPanic ?_
      refine wp_region_held_drew (S := fun w' => Blk w' w.heap.size 39 [.int .i64 0, .int .i64 ob, .int .i64 ln, .bool true, .int .u8 (f : Int)] ∧ Blk w' (w.heap.size + 1) 46 (vals (fillP 0))) (by kernel_rfl) ⟨hOn.drew, hR1.drew⟩ (fun hHeld => ?_)
      refine wpAnyH_take (i := 0) (v := ?_) rfl (by kernel_rfl) (by kernel_rfl) (by kernel_rfl) (fun _ _ _ h => h) (Or.inl ⟨by rfl, ?_⟩) hHeld ?_
      rotate_left
      · intro w hSw; try dsimp only at hSw
        go_simp; try (with_reducible rfl)
      try simp only [Act.put, List.getElem_toArray, List.getElem_cons_succ, List.getElem_cons_zero, List.setIfInBounds_toArray, List.set_cons_zero, List.set_cons_succ]
      refine wpAnyH_take (i := 1) (v := ?_) rfl (by kernel_rfl) (by kernel_rfl) (by kernel_rfl) (fun _ _ _ h => h) (Or.inl ⟨by rfl, ?_⟩) hHeld ?_
      rotate_left
      · intro w hSw; try dsimp only at hSw
        go_simp; try (with_reducible rfl)
      try simp only [Act.put, List.getElem_toArray, List.getElem_cons_succ, List.getElem_cons_zero, List.setIfInBounds_toArray, List.set_cons_zero, List.set_cons_succ]
      refine wpAnyH_take (i := 2) (v := ?_) rfl (by kernel_rfl) (by kernel_rfl) (by kernel_rfl) (fun _ _ _ h => h) (Or.inl ⟨by rfl, ?_⟩) hHeld ?_
      rotate_left
      · intro w hSw; try dsimp only at hSw
        go_simp; try (with_reducible rfl)
      try simp only [Act.put, List.getElem_toArray, List.getElem_cons_succ, List.getElem_cons_zero, List.setIfInBounds_toArray, List.set_cons_zero, List.set_cons_succ]
      refine wpAnyH_take (i := 3) (v := ?_) rfl (by kernel_rfl) (by kernel_rfl) (by kernel_rfl) (fun _ _ _ h => h) (Or.inl ⟨by rfl, ?_⟩) hHeld ?_
      rotate_left
      · intro w hSw; try dsimp only at hSw
        have z := hSw.1.cell' (i := 1) rfl
        go_simp; try (with_reducible rfl)
      try simp only [Act.put, List.getElem_toArray, List.getElem_cons_succ, List.getElem_cons_zero, List.setIfInBounds_toArray, List.set_cons_zero, List.set_cons_succ]
      refine wpAnyH_take (i := 4) (v := ?_) rfl (by kernel_rfl) (by kernel_rfl) (by kernel_rfl) (fun _ _ _ h => h) (Or.inl ⟨by rfl, ?_⟩) hHeld ?_
      rotate_left
      · intro w hSw; try dsimp only at hSw
        go_simp; try (with_reducible rfl)
      try simp only [Act.put, List.getElem_toArray, List.getElem_cons_succ, List.getElem_cons_zero, List.setIfInBounds_toArray, List.set_cons_zero, List.set_cons_succ]
      refine wpAnyH_take (i := 5) (v := ?_) rfl (by kernel_rfl) (by kernel_rfl) (by kernel_rfl) (fun _ _ _ h => h) (Or.inl ⟨by rfl, ?_⟩) hHeld ?_
      rotate_left
      · intro w hSw; try dsimp only at hSw
        have z := hSw.1.cell' (i := 2) rfl
        go_simp; try (with_reducible rfl)
      try simp only [Act.put, List.getElem_toArray, List.getElem_cons_succ, List.getElem_cons_zero, List.setIfInBounds_toArray, List.set_cons_zero, List.set_cons_succ]
      refine wpAnyH_take (i := 6) (v := ?_) rfl (by kernel_rfl) (by kernel_rfl) (by kernel_rfl) (fun _ _ _ h => h) (Or.inl ⟨by rfl, ?_⟩) hHeld ?_
      rotate_left
      · intro w hSw; try dsimp only at hSw
        go_simp; try (with_reducible rfl)
      try simp only [Act.put, List.getElem_toArray, List.getElem_cons_succ, List.getElem_cons_zero, List.setIfInBounds_toArray, List.set_cons_zero, List.set_cons_succ]
      refine wpAnyH_take (i := 7) (v := ?_) rfl (by kernel_rfl) (by kernel_rfl) (by kernel_rfl) (fun _ _ _ h => h) (Or.inl ⟨by rfl, ?_⟩) hHeld ?_
      rotate_left
      · intro w hSw; try dsimp only at hSw
        have z := hSw.1.cell' (i := 4) rfl
        go_simp; try (with_reducible rfl)
      try simp only [Act.put, List.getElem_toArray, List.getElem_cons_succ, List.getElem_cons_zero, List.setIfInBounds_toArray, List.set_cons_zero, List.set_cons_succ]
      refine wpAnyH_ready (rs := [8]) (by kernel_rfl) (by simp) ?_
      refine AllReadyH.cons rfl (fun K hK => ?_) AllReadyH.nil
      go_simp
      refine (page_any f _).mono ?_
      rintro e Y1 ⟨rfl, y1⟩
      have hby := hbn.drew.trans (y1.mono sn)
      try go_wp2_with fail
      refine hK.out _ _ ⟨hHeld.1.kept y1, hHeld.2.kept y1⟩ (fun hHeld => ?_)
      clear hK K
      try simp only [Act.put, List.getElem_toArray, List.getElem_cons_succ, List.getElem_cons_zero, List.setIfInBounds_toArray, List.set_cons_zero, List.set_cons_succ]
      refine wpAnyH_ready (rs := [9]) (by kernel_rfl) (by simp) ?_
      refine AllReadyH.cons rfl (fun K hK => ?_) AllReadyH.nil
      go_simp
      refine (hq _ (h.below hby)).mono ?_
      rintro e Y2 ⟨rfl, hA2⟩
      have hO2 := hHeld.1.after hA2 (fun e => by have := hfl _ e; omega)
      have hR2 := hHeld.2.after hA2 (fun e => by have := hfl _ e; omega)
      try go_wp2_with fail
      refine hK.out _ _ ⟨hO2, hR2⟩ (fun hHeld => ?_)
      clear hK K
      try simp only [Act.put, List.getElem_toArray, List.getElem_cons_succ, List.getElem_cons_zero, List.setIfInBounds_toArray, List.set_cons_zero, List.set_cons_succ]
      refine wpAnyH_ready (rs := [10]) (by kernel_rfl) (by simp) ?_
      refine AllReadyH.cons rfl (fun K hK => ?_) AllReadyH.nil
      rw [if_pos (by rfl)]
      refine wp_store_blk 46 (.tmp 4) _ rfl _ _ (vals (fillP 0)) rfl rfl hHeld.2 (Nat.le_of_eq (Nat.zero_add _)) (sizeP (fillP_length _)) (vals_one _) ?_
      intro w9 h9 ht9
      rw [whole_row rfl] at h9
      refine hK.out _ _ ⟨hO2.keep (S := fun k => k = w.heap.size + 1) (Keep.of_turned ht9 rfl) (by omega), h9⟩ (fun hHeld => ?_)
      clear hK K
      try simp only [Act.put, List.getElem_toArray, List.getElem_cons_succ, List.getElem_cons_zero, List.setIfInBounds_toArray, List.set_cons_zero, List.set_cons_succ]
      refine wpAnyH_take (i := 11) (v := ?_) rfl (by kernel_rfl) (by kernel_rfl) (by kernel_rfl) (fun _ _ _ h => h) (Or.inl ⟨by rfl, ?_⟩) hHeld ?_
      rotate_left
      · intro w hSw; try dsimp only at hSw
        go_simp; try (with_reducible rfl)
      try simp only [Act.put, List.getElem_toArray, List.getElem_cons_succ, List.getElem_cons_zero, List.setIfInBounds_toArray, List.set_cons_zero, List.set_cons_succ]
      refine wpAnyH_done (by kernel_rfl) ?_ _
      refine NoPanic.normal ?_
      go_wp2_with fail
      exact ret_pageE Try.results18 rfl h9 (fillP_length _) rfl rfl ⟨rfl, (After.of hby hA2).same (keep_same ht9 hR2 h9)⟩
    · by_cases n1 : od = 1
      · subst n1
        have hb0 : Below w.heap.size w ((w.alloc (.cells #[.int .i64 1, .int .i64 ob, .int .i64 op, .bool true, .int .u8 (f : Int)] 39)).alloc (.cells (vals (fillP 0)).toArray 46)) := bt (below_alloc w _) (below_alloc _ _)
        have hO0 : Blk ((w.alloc (.cells #[.int .i64 1, .int .i64 ob, .int .i64 op, .bool true, .int .u8 (f : Int)] 39)).alloc (.cells (vals (fillP 0)).toArray 46)) w.heap.size 39 [.int .i64 1, .int .i64 ob, .int .i64 op, .bool true, .int .u8 (f : Int)] := (Blk.new' w 39 #[.int .i64 1, .int .i64 ob, .int .i64 op, .bool true, .int .u8 (f : Int)]).alloc _
        have hR0 : Blk ((w.alloc (.cells #[.int .i64 1, .int .i64 ob, .int .i64 op, .bool true, .int .u8 (f : Int)] 39)).alloc (.cells (vals (fillP 0)).toArray 46)) (w.heap.size + 1) 46 (vals (fillP 0)) := by have := Blk.new (w.alloc (.cells #[.int .i64 1, .int .i64 ob, .int .i64 op, .bool true, .int .u8 (f : Int)] 39)) 46 (vals (fillP 0)); rwa [World.size_alloc] at this
        have hfl := fun k (hk : fpOf c bb PV s.nb k) => h.lt hk
        have hq := fun W (hW : ChipIn W c s bb PV) => erase_any c s bb PV ob W hW ho
        rw [show doesE s ⟨1, ob, op, true, f⟩ = eraseE s ob from rfl, show doesSt s ⟨1, ob, op, true, f⟩ = eraseSt s ob from rfl, show doesX s ⟨1, ob, op, true, f⟩ = fillP 0 from rfl]
        have hlk := look_any c s bb PV ob _ (h.below hb0)
        generalize lkW s ob = lw at *
        generalize lkB s ob = lb at *
        generalize lkN s ob = ln at *
        have o3 := hO0.cell' (i := 3) rfl
        go_enter Try.func18, Try.ntmps18
        go_wp2_with (first
          | (go_at_call 20; refine hlk.mono ?_; rintro e X1 ⟨rfl, hx1⟩; have hO1 := (hO0.kept hx1).alloc (.cells #[.int .i64 lw, .int .i64 ln, .bool lb] 54); have hR1 := ((hR0.kept hx1).alloc (.cells #[.int .i64 lw, .int .i64 ln, .bool lb] 54)).setOther ⟨w.heap.size, 2, none⟩ (.int .i64 ln) (by show w.heap.size + 1 ≠ w.heap.size; omega); have hbn : Below w.heap.size w ((X1.alloc (.cells #[.int .i64 lw, .int .i64 ln, .bool lb] 54)).setCell ⟨w.heap.size, 2, none⟩ (.int .i64 ln)) := (bt (bt hb0 hx1) (below_alloc _ _)).setCell (Nat.le_refl _) _; have hOn := hO1.set 2 (.int .i64 ln); have o0 := hO1.cell' (i := 0) rfl; have o1 := hO1.cell' (i := 1) rfl; have o2 := hO1.cell' (i := 2) rfl; have o4 := hO1.cell' (i := 4) rfl; have f2 := hO1.frozen 2; clear hlk)
          | (go_at_call 15; refine (hq _ (h.below hbn)).mono ?_; rintro e X2 ⟨rfl, hA2⟩; have hR2 := hR1.after hA2 (fun e => by have := hfl _ e; omega))
          | (refine wpList_store_blk rfl 46 (.tmp 4) _ rfl _ _ (vals (fillP 0)) rfl rfl hR2 (Nat.le_of_eq (Nat.zero_add _)) (sizeP (fillP_length _)) (vals_one _) ?_; intro w9 h9 ht9; rw [whole_row rfl] at h9))
        exact ret_pageE Try.results18 rfl h9 (fillP_length _) rfl rfl ⟨rfl, (After.of hbn hA2).same (keep_same ht9 hR2 h9)⟩
      · by_cases n2 : od = 2
        · subst n2
          have hb0 : Below w.heap.size w ((w.alloc (.cells #[.int .i64 2, .int .i64 ob, .int .i64 op, .bool true, .int .u8 (f : Int)] 39)).alloc (.cells (vals (fillP 0)).toArray 46)) := bt (below_alloc w _) (below_alloc _ _)
          have hO0 : Blk ((w.alloc (.cells #[.int .i64 2, .int .i64 ob, .int .i64 op, .bool true, .int .u8 (f : Int)] 39)).alloc (.cells (vals (fillP 0)).toArray 46)) w.heap.size 39 [.int .i64 2, .int .i64 ob, .int .i64 op, .bool true, .int .u8 (f : Int)] := (Blk.new' w 39 #[.int .i64 2, .int .i64 ob, .int .i64 op, .bool true, .int .u8 (f : Int)]).alloc _
          have hR0 : Blk ((w.alloc (.cells #[.int .i64 2, .int .i64 ob, .int .i64 op, .bool true, .int .u8 (f : Int)] 39)).alloc (.cells (vals (fillP 0)).toArray 46)) (w.heap.size + 1) 46 (vals (fillP 0)) := by have := Blk.new (w.alloc (.cells #[.int .i64 2, .int .i64 ob, .int .i64 op, .bool true, .int .u8 (f : Int)] 39)) 46 (vals (fillP 0)); rwa [World.size_alloc] at this
          have hfl := fun k (hk : fpOf c bb PV s.nb k) => h.lt hk
          have hq := fun W (hW : ChipIn W c s bb PV) => read_uni c s bb PV ob (lkN s ob) W hW
          rw [show doesE s ⟨2, ob, op, true, f⟩ = reachE s.nb s.np s.on ob (lkN s ob) from rfl, show doesSt s ⟨2, ob, op, true, f⟩ = s from rfl, show doesX s ⟨2, ob, op, true, f⟩ = readX s ob (lkN s ob) from rfl]
          have HL : Hid ((readX s ob (lkN s ob)).length = 288) := (readX_isP h ob (lkN s ob)).1
          have hlk := look_any c s bb PV ob _ (h.below hb0)
          generalize lkW s ob = lw at *
          generalize lkB s ob = lb at *
          generalize lkN s ob = ln at *
          have o3 := hO0.cell' (i := 3) rfl
          go_enter Try.func18, Try.ntmps18
          go_wp2_with (first
            | (go_at_call 20; refine hlk.mono ?_; rintro e X1 ⟨rfl, hx1⟩; have hO1 := (hO0.kept hx1).alloc (.cells #[.int .i64 lw, .int .i64 ln, .bool lb] 54); have hR1 := ((hR0.kept hx1).alloc (.cells #[.int .i64 lw, .int .i64 ln, .bool lb] 54)).setOther ⟨w.heap.size, 2, none⟩ (.int .i64 ln) (by show w.heap.size + 1 ≠ w.heap.size; omega); have hbn : Below w.heap.size w ((X1.alloc (.cells #[.int .i64 lw, .int .i64 ln, .bool lb] 54)).setCell ⟨w.heap.size, 2, none⟩ (.int .i64 ln)) := (bt (bt hb0 hx1) (below_alloc _ _)).setCell (Nat.le_refl _) _; have hOn := hO1.set 2 (.int .i64 ln); have o0 := hO1.cell' (i := 0) rfl; have o1 := hO1.cell' (i := 1) rfl; have o2 := hO1.cell' (i := 2) rfl; have o4 := hO1.cell' (i := 4) rfl; have f2 := hO1.frozen 2; clear hlk)
            | (go_at_call 32; refine (hq _ (h.below hbn)).mono ?_; rintro e X2 ⟨rfl, hx2⟩; have hR2 := hR1.kept hx2)
            | (refine wpList_store_blk rfl 46 (.tmp 4) _ rfl _ _ (vals (readX s ob ln)) rfl rfl hR2 (by rw [vals_length, vals_length, HL.out, fillP_length]; exact Nat.le_of_eq (by first | rfl | simp)) (sizeP HL.out) (vals_one _) ?_; intro w9 h9 ht9; rw [whole_row (by rw [vals_length, vals_length, HL.out, fillP_length])] at h9))
          exact ret_pageE Try.results18 rfl h9 HL.out rfl rfl ⟨rfl, After.refused h (ht9.below (bt hbn hx2) (by omega))⟩
        · by_cases n3 : od = 3
          · subst n3
            have hb0 : Below w.heap.size w ((w.alloc (.cells #[.int .i64 3, .int .i64 ob, .int .i64 op, .bool true, .int .u8 (f : Int)] 39)).alloc (.cells (vals (fillP 0)).toArray 46)) := bt (below_alloc w _) (below_alloc _ _)
            have hO0 : Blk ((w.alloc (.cells #[.int .i64 3, .int .i64 ob, .int .i64 op, .bool true, .int .u8 (f : Int)] 39)).alloc (.cells (vals (fillP 0)).toArray 46)) w.heap.size 39 [.int .i64 3, .int .i64 ob, .int .i64 op, .bool true, .int .u8 (f : Int)] := (Blk.new' w 39 #[.int .i64 3, .int .i64 ob, .int .i64 op, .bool true, .int .u8 (f : Int)]).alloc _
            have hR0 : Blk ((w.alloc (.cells #[.int .i64 3, .int .i64 ob, .int .i64 op, .bool true, .int .u8 (f : Int)] 39)).alloc (.cells (vals (fillP 0)).toArray 46)) (w.heap.size + 1) 46 (vals (fillP 0)) := by have := Blk.new (w.alloc (.cells #[.int .i64 3, .int .i64 ob, .int .i64 op, .bool true, .int .u8 (f : Int)] 39)) 46 (vals (fillP 0)); rwa [World.size_alloc] at this
            have hfl := fun k (hk : fpOf c bb PV s.nb k) => h.lt hk
            rw [show doesE s ⟨3, ob, op, true, f⟩ = 0 from rfl, show doesSt s ⟨3, ob, op, true, f⟩ = { s with on := true } from rfl, show doesX s ⟨3, ob, op, true, f⟩ = fillP 0 from rfl]
            have hlk := look_any c s bb PV ob _ (h.below hb0)
            generalize lkW s ob = lw at *
            generalize lkB s ob = lb at *
            generalize lkN s ob = ln at *
            have o3 := hO0.cell' (i := 3) rfl
            go_enter Try.func18, Try.ntmps18
            have hrs := fun W (hW : ChipIn W c s bb PV) => hW.chip
            go_wp2_with (first
              | (go_at_call 20; refine hlk.mono ?_; rintro e X1 ⟨rfl, hx1⟩; have hO1 := (hO0.kept hx1).alloc (.cells #[.int .i64 lw, .int .i64 ln, .bool lb] 54); have hR1 := ((hR0.kept hx1).alloc (.cells #[.int .i64 lw, .int .i64 ln, .bool lb] 54)).setOther ⟨w.heap.size, 2, none⟩ (.int .i64 ln) (by show w.heap.size + 1 ≠ w.heap.size; omega); have hbn : Below w.heap.size w ((X1.alloc (.cells #[.int .i64 lw, .int .i64 ln, .bool lb] 54)).setCell ⟨w.heap.size, 2, none⟩ (.int .i64 ln)) := (bt (bt hb0 hx1) (below_alloc _ _)).setCell (Nat.le_refl _) _; have hOn := hO1.set 2 (.int .i64 ln); have o0 := hO1.cell' (i := 0) rfl; have o1 := hO1.cell' (i := 1) rfl; have o2 := hO1.cell' (i := 2) rfl; have o4 := hO1.cell' (i := 4) rfl; have f2 := hO1.frozen 2; clear hlk)
              | (go_at_call 27; obtain ⟨ep5, el5, ec5, hc5, _⟩ := (h.below hbn).chip; refine (restart_any c _ s.nb s.cr s.on _ (by have := h.nbl; omega) (hc5.cell' (i := 2) rfl) (hc5.cell' (i := 5) rfl) (hc5.frozen 5)).mono ?_; rintro e X2 ⟨rfl, hX2⟩; have hA2 := After.restart (h.below hbn); rw [← hX2] at hA2; clear hX2; have hR2 := hR1.after hA2 (fun e => by have := hfl _ e; omega))
              | (refine wpList_store_blk rfl 46 (.tmp 4) _ rfl _ _ (vals (fillP 0)) rfl rfl hR2 (Nat.le_of_eq (Nat.zero_add _)) (sizeP (fillP_length _)) (vals_one _) ?_; intro w9 h9 ht9; rw [whole_row rfl] at h9))
            exact ret_pageE Try.results18 rfl h9 (fillP_length _) rfl rfl ⟨rfl, (After.of hbn hA2).same (keep_same ht9 hR2 h9)⟩
          · have hb0 : Below w.heap.size w ((w.alloc (.cells #[.int .i64 od, .int .i64 ob, .int .i64 op, .bool true, .int .u8 (f : Int)] 39)).alloc (.cells (vals (fillP 0)).toArray 46)) := bt (below_alloc w _) (below_alloc _ _)
            have hO0 : Blk ((w.alloc (.cells #[.int .i64 od, .int .i64 ob, .int .i64 op, .bool true, .int .u8 (f : Int)] 39)).alloc (.cells (vals (fillP 0)).toArray 46)) w.heap.size 39 [.int .i64 od, .int .i64 ob, .int .i64 op, .bool true, .int .u8 (f : Int)] := (Blk.new' w 39 #[.int .i64 od, .int .i64 ob, .int .i64 op, .bool true, .int .u8 (f : Int)]).alloc _
            have hR0 : Blk ((w.alloc (.cells #[.int .i64 od, .int .i64 ob, .int .i64 op, .bool true, .int .u8 (f : Int)] 39)).alloc (.cells (vals (fillP 0)).toArray 46)) (w.heap.size + 1) 46 (vals (fillP 0)) := by have := Blk.new (w.alloc (.cells #[.int .i64 od, .int .i64 ob, .int .i64 op, .bool true, .int .u8 (f : Int)] 39)) 46 (vals (fillP 0)); rwa [World.size_alloc] at this
            have hfl := fun k (hk : fpOf c bb PV s.nb k) => h.lt hk
            rw [show doesE s ⟨od, ob, op, true, f⟩ = 0 from by simp [doesE, n0, n1, n2], show doesSt s ⟨od, ob, op, true, f⟩ = s from by simp [doesSt, n0, n1, n3], show doesX s ⟨od, ob, op, true, f⟩ = fillP 0 from by simp [doesX, n2]]
            have m0 : (od == 0) = false := by simpa using n0
            have m1 : (od == 1) = false := by simpa using n1
            have m2 : (od == 2) = false := by simpa using n2
            have m3 : (od == 3) = false := by simpa using n3
            have hlk := look_any c s bb PV ob _ (h.below hb0)
            generalize lkW s ob = lw at *
            generalize lkB s ob = lb at *
            generalize lkN s ob = ln at *
            have o3 := hO0.cell' (i := 3) rfl
            go_enter Try.func18, Try.ntmps18
            go_wp2_with (first
              | (go_at_call 20; refine hlk.mono ?_; rintro e X1 ⟨rfl, hx1⟩; have hO1 := (hO0.kept hx1).alloc (.cells #[.int .i64 lw, .int .i64 ln, .bool lb] 54); have hR1 := ((hR0.kept hx1).alloc (.cells #[.int .i64 lw, .int .i64 ln, .bool lb] 54)).setOther ⟨w.heap.size, 2, none⟩ (.int .i64 ln) (by show w.heap.size + 1 ≠ w.heap.size; omega); have hbn : Below w.heap.size w ((X1.alloc (.cells #[.int .i64 lw, .int .i64 ln, .bool lb] 54)).setCell ⟨w.heap.size, 2, none⟩ (.int .i64 ln)) := (bt (bt hb0 hx1) (below_alloc _ _)).setCell (Nat.le_refl _) _; have hOn := hO1.set 2 (.int .i64 ln); have o0 := hO1.cell' (i := 0) rfl; have o1 := hO1.cell' (i := 1) rfl; have o2 := hO1.cell' (i := 2) rfl; have o4 := hO1.cell' (i := 4) rfl; have f2 := hO1.frozen 2; clear hlk)
              | (refine wpList_store_blk rfl 46 (.tmp 4) _ rfl _ _ (vals (fillP 0)) rfl rfl hR1 (Nat.le_of_eq (Nat.zero_add _)) (sizeP (fillP_length _)) (vals_one _) ?_; intro w9 h9 ht9; rw [whole_row rfl] at h9))
            exact ret_pageE Try.results18 rfl h9 (fillP_length _) rfl rfl ⟨rfl, After.refused h (ht9.below hbn (by omega))⟩
end Go.Proofs.Ythafcnilhloldaa
