/-
  What Decode answers.
-/
import Derived.Test.YtfgelncfmopibaaXPgHead
namespace Go.Proofs.Ytfgelncfmopibaa.Pg
open Go.RowKit
/-- The header that a page's bytes say. -/
def hv0 (P : List Nat) : Int := IntKind.i64.wrap (fld P 0)
def hv1 (P : List Nat) : Int := IntKind.i64.wrap (fld P 2)
def hv2 (P : List Nat) : Int := IntKind.i64.wrap (fld P 3)
def hv3 (P : List Nat) : Int := IntKind.i64.wrap (fld P 4)
/-- What Encode makes of it, and of the data. -/
def agE (P : List Nat) : Int := encE (hv0 P) (hv1 P) (hv2 P) (hv3 P) (P.take 256)
def agP (P : List Nat) : List Nat := encP (hv0 P) (hv1 P) (hv2 P) (hv3 P) (P.take 256)
/-- Whether the header is one that Encode puts. -/
def decOk (P : List Nat) : Bool := agE P == 0 && agP P == P
/-- The error of Decode. -/
def decE (P : List Nat) : Int := if stateL P = 0 then (if decOk P then 0 else 30) else stateL P
theorem encP_isP (k g s t : Int) {data : List Nat} (hl : data.length ≤ 256) (hd : ∀ x ∈ data, x < 256) : IsP (encP k g s t data) := by
  unfold encP
  by_cases h : encE k g s t data = 0
  · rw [if_pos h]
    refine encL_isP ?_ hl hd
    unfold encE at h
    split at h
    · assumption
    · simp at h
  · rw [if_neg h]
    exact isP_fill 0 (by decide)
theorem agP_isP {P : List Nat} (hP : IsP P) : IsP (agP P) := encP_isP _ _ _ _ (by rw [List.length_take]; omega) (fun x hx => hP.2 x (List.mem_of_mem_take hx))
theorem results_cell_tmp2 {fn : Func} {p u v : Tmp} {ty : TypeId} (h : fn.results = #[.cell p ty, .tmp u, .tmp v]) (tmps : Array Value) (P : Program) (w : World) :
    (results fn tmps).run P w =
      ((asAddr (tmps.getD p undef)).run P w).andThen fun a w₁ => ((loadVar ty a).run P w₁).andThen fun x w₂ => .ok (.tuple #[x, tmps.getD u undef, tmps.getD v undef]) w₂ := by
  simp only [results, h]
  simp [Sem.run_bind, Result.andThen]
/-- A function with three results, of which the first lies in a cell, a header. -/
theorem ret_hdr3 {fn : Func} {p u v : Tmp} (h : fn.results = #[.cell p 31, .tmp u, .tmp v]) {R : Ending → World → Prop} {a : Act} {w : World} {g : Nat} {t : TypeId} {x0 x1 x2 x3 : Value} (hp : a.tmps.getD p undef = .pointer (some ⟨g, 0, none⟩))
    (hb : Blk w g t [x0, x1, x2, x3]) (hd : a.defers = []) (hR : R (.returned (.tuple #[.agg #[x0, x1, x2, x3], a.tmps.getD u undef, a.tmps.getD v undef])) w) : bodyPost Try.prog fn R .ret a w := by
  refine bodyPost_ret (v := .tuple #[.agg #[x0, x1, x2, x3], a.tmps.getD u undef, a.tmps.getD v undef]) ?_ hd hR
  rw [results_cell_tmp2 h, hp]
  simp only [asAddr, Sem.run_pure, Result.andThen_ok, run_loadVar_mid w g 0 31 [x0, x1, x2, x3] _ (hb.range 0 4 _ rfl) Try.underlying31 rfl (by kernel_rfl)]
/-- A store of a whole value into a block that is known whole: the operation. -/
theorem wp_store_blk {op : Oper} {a : Act} {w : World} {K : Act → World → Prop} {Q : Exit → Act → World → Prop} (ty : TypeId) (x y : Operand) (ho : op.op = .store ty x y)
    (g o : Nat) (xs : List Value) (hx : a.eval x = .pointer (some ⟨g, o, none⟩)) (hy : a.eval y = .agg xs.toArray) {t : TypeId} {cs : List Value} (h : Blk w g t cs) (hle : o + xs.length ≤ cs.length)
    (hi : (Try.prog.info? ty).map (·.size) = some xs.length) (h1 : ∀ v ∈ xs, v.oneCell' = true)
    (hK : ∀ w', Blk w' g t (cs.take o ++ xs ++ cs.drop (o + xs.length)) → Turned w w' g → K (a.put op.dst undef) w') : op.wp Try.prog a w K Q := by
  have hst := h.store o xs hle h1
  have hrun : (storeVar ty ⟨g, o, none⟩ (.agg xs.toArray)).run Try.prog w = .ok () (w.setRow g (cs.take o ++ xs ++ cs.drop (o + xs.length)).toArray) := by
    cases hq : Try.prog.info? ty with
    | none => simp [hq] at hi
    | some i =>
      have hs : xs.length = i.size := by simp [hq] at hi; omega
      simp only [storeVar, sizeOf, typeInfo, Sem.run_bind, Value.cells]
      simp [hs, hq, hst]
  unfold Oper.wp execOp
  simp only [ho, hx, hy, Instr.storeAt, Instr.sureAddr, Sem.run_bind, Sem.run_pure, Result.andThen_ok, hrun]
  exact hK _ (h.setRow _) (Turned.setRow _ _ _)
theorem hdr_one {a b c d : Int} : ∀ v ∈ [Value.int .i64 a, .int .i64 b, .int .i64 c, .int .i64 d], v.oneCell' = true := by simp [Value.oneCell']
theorem hdr_size {a b c d : Value} : (Try.prog.info? 31).map (·.size) = some [a, b, c, d].length := by kernel_rfl
theorem hdr_whole (a b c d a' b' c' d' : Value) : [a, b, c, d].take 0 ++ [a', b', c', d'] ++ [a, b, c, d].drop (0 + [a', b', c', d'].length) = [a', b', c', d'] := rfl
/-- A load of a whole value by a guarded operation whose guard lets it by. -/
theorem wpList_load_guard {ops : Array Oper} {rest : List Oper} {op : Oper} {a : Act} {w : World} {Q : Exit → Act → World → Prop} (hw : Region.wanted op (yielded ops a.tmps) = true) (ty : TypeId) (x : Operand) (ho : op.op = .load ty x)
    (b o : Nat) (hx : a.eval x = .pointer (some ⟨b, o, none⟩)) (cs : List Value) (d : TypeDesc) (hc : w.rangeAt b o cs)
    (hu : Try.prog.underlying ty = some d) (hd : d.isRow = true) (hi : (Try.prog.info? ty).map (·.size) = some cs.length)
    (h : wpList Try.prog ops Q rest (a.put op.dst (.agg cs.toArray)) w) : wpList Try.prog ops Q (op :: rest) a w :=
  wpList_step fun K hK => by rw [if_pos hw]; exact wp_load_mid ty x ho b o hx cs d hc hu hd hi (hK _ _ h)
theorem cells4_blk {W : World} {G : Nat} {t : TypeId} {a b c d : Value} (h : Blk W G t [a, b, c, d]) :
    W.cell? ⟨G, 0, none⟩ = some a ∧ W.cell? ⟨G, 1, none⟩ = some b ∧ W.cell? ⟨G, 2, none⟩ = some c ∧ W.cell? ⟨G, 3, none⟩ = some d :=
  ⟨h.cell' rfl, h.cell' rfl, h.cell' rfl, h.cell' rfl⟩
set_option maxRecDepth 100000 in
set_option maxHeartbeats 2000000 in
theorem decode_bad (P : List Nat) (hP : IsP P) (w : World) (hs : stateL P ≠ 0) :
    Calls Try.prog 32 #[.agg (vals P).toArray] w fun e w' => e = .returned (.tuple #[.agg #[.int .i64 0, .int .i64 0, .int .i64 0, .int .i64 0], .slice none 0 0, .int .i64 (stateL P)]) ∧ Below w.heap.size w w' := by
  have b0 := (Blk.new w 74 (vals P)).alloc (.cells #[.int .i64 0, .int .i64 0, .int .i64 0, .int .i64 0] 31)
  have b1 := Blk.new' (w.alloc (.cells (vals P).toArray 74)) 31 #[.int .i64 0, .int .i64 0, .int .i64 0, .int .i64 0]
  rw [World.size_alloc] at b1
  have hbel : Below w.heap.size w ((w.alloc (.cells (vals P).toArray 74)).alloc (.cells #[.int .i64 0, .int .i64 0, .int .i64 0, .int .i64 0] 31)) := (below_alloc w _).alloc (by simp) _
  obtain ⟨st, hst⟩ : ∃ st, stateL P = st := ⟨_, rfl⟩
  have HS : Hid (stateL P = st) := hst
  rw [hst] at hs
  have hb : (st != 0) = true := by rw [bne_iff_ne]; exact hs
  clear hst hs
  go_enter Try.func32, Try.ntmps32
  go_wp2_with (first
    | (refine wpList_load_mid rfl 74 _ rfl w.heap.size 0 rfl (vals P) _ (b0.page hP.1) Try.underlying74 rfl (sizeP hP.1) ?_)
    | (go_at_call 57; refine (join_any P hP _).mono ?_; rintro e w1 ⟨p1, c1, rfl, hin1, hb1⟩; have hB1 := bt hbel hb1; have b2 := b1.kept hb1)
    | (go_at_call 56; refine (state_any p1 288 c1 P _ hin1).mono ?_; rintro e w2 ⟨rfl, hb2⟩; rw [HS.out]; have hB2 := bt hB1 hb2; have b3 := b2.kept hb2)
    | (refine wpList_store_blk rfl 31 _ _ rfl _ _ [.int .i64 0, .int .i64 0, .int .i64 0, .int .i64 0] rfl rfl b3 (by simp) hdr_size hdr_one ?_; intro w5 h5 ht5))
  refine ret_hdr3 Try.results32 rfl h5 rfl ⟨?_, ht5.below hB2 (by omega)⟩
  rw [HS.out]
  rfl
set_option linter.unusedSimpArgs false in
set_option maxRecDepth 100000 in
set_option maxHeartbeats 4000000 in
theorem decode_good (P : List Nat) (hP : IsP P) (w : World) (hs : stateL P = 0) :
    Calls Try.prog 32 #[.agg (vals P).toArray] w fun e w' => ((decOk P = false ∧ e = .returned (.tuple #[.agg #[.int .i64 0, .int .i64 0, .int .i64 0, .int .i64 0], .slice none 0 0, .int .i64 30])) ∨
      (decOk P = true ∧ ∃ p c, e = .returned (.tuple #[.agg #[.int .i64 (hv0 P), .int .i64 (hv1 P), .int .i64 (hv2 P), .int .i64 (hv3 P)], .slice p 256 c, .int .i64 0]) ∧ In w' p 256 c (P.take 256))) ∧ Below w.heap.size w w' := by
  have hz := zeroPage
  have b0 := (Blk.new w 74 (vals P)).alloc (.cells #[.int .i64 0, .int .i64 0, .int .i64 0, .int .i64 0] 31)
  have b1 := Blk.new' (w.alloc (.cells (vals P).toArray 74)) 31 #[.int .i64 0, .int .i64 0, .int .i64 0, .int .i64 0]
  rw [World.size_alloc] at b1
  have hbel : Below w.heap.size w ((w.alloc (.cells (vals P).toArray 74)).alloc (.cells #[.int .i64 0, .int .i64 0, .int .i64 0, .int .i64 0] 31)) := (below_alloc w _).alloc (by simp) _
  have HS : Hid (stateL P = 0) := hs
  clear hs
  have HO : Hid ((P.drop 256).length = 32) := by show _ = _; rw [List.length_drop, hP.1]
  have hhd := fun w => header_any P hP w
  have HAP := agP_isP hP
  have HAG : Hid (decOk P = (agE P == 0 && agP P == P)) := rfl
  have hen : ∀ p c w, In w p 256 c (P.take 256) → Calls Try.prog 59 #[.agg #[.int .i64 (hv0 P), .int .i64 (hv1 P), .int .i64 (hv2 P), .int .i64 (hv3 P)], .slice p 256 c] w fun e w' => e = .returned (.tuple #[.agg (vals (agP P)).toArray, .int .i64 (agE P)]) ∧ Below w.heap.size w w' :=
    fun p c w h => encode_any (hv0 P) (hv1 P) (hv2 P) (hv3 P) p 256 c (P.take 256) w h
  obtain ⟨k0, h0⟩ : ∃ k, hv0 P = k := ⟨_, rfl⟩
  obtain ⟨k1, h1⟩ : ∃ k, hv1 P = k := ⟨_, rfl⟩
  obtain ⟨k2, h2⟩ : ∃ k, hv2 P = k := ⟨_, rfl⟩
  obtain ⟨k3, h3⟩ : ∃ k, hv3 P = k := ⟨_, rfl⟩
  obtain ⟨A, hA⟩ : ∃ A, agP P = A := ⟨_, rfl⟩
  obtain ⟨ae, hae⟩ : ∃ a, agE P = a := ⟨_, rfl⟩
  rw [hA] at HAP HAG
  rw [hae] at HAG
  have hhd : ∀ w, Calls Try.prog 58 #[.agg (vals (P.drop 256)).toArray] w fun e w' => e = .returned (.tuple #[.agg #[.int .i64 k0, .int .i64 k1, .int .i64 k2, .int .i64 k3], .int .i64 0]) ∧ Below w.heap.size w w' := by
    intro w; have := header_any P hP w; rw [← h0, ← h1, ← h2, ← h3]; exact this
  rw [h0, h1, h2, h3, hA, hae] at hen
  rw [h0, h1, h2, h3]
  have HHD : Hid (∀ w, Calls Try.prog 58 #[.agg (vals (P.drop 256)).toArray] w fun e w' => e = .returned (.tuple #[.agg #[.int .i64 k0, .int .i64 k1, .int .i64 k2, .int .i64 k3], .int .i64 0]) ∧ Below w.heap.size w w') := hhd
  have HEN : Hid (∀ p c w, In w p 256 c (P.take 256) → Calls Try.prog 59 #[.agg #[.int .i64 k0, .int .i64 k1, .int .i64 k2, .int .i64 k3], .slice p 256 c] w fun e w' => e = .returned (.tuple #[.agg (vals A).toArray, .int .i64 ae]) ∧ Below w.heap.size w w') := hen
  clear hhd hen h0 h1 h2 h3 hA hae
  go_enter Try.func32, Try.ntmps32
  go_wp2_with (first
    | (refine wpList_load_mid rfl 74 _ rfl w.heap.size 0 rfl (vals P) _ (b0.page hP.1) Try.underlying74 rfl (sizeP hP.1) ?_)
    | (go_at_call 57; refine (join_any P hP _).mono ?_; rintro e w1 ⟨p1, c1, rfl, hin1, hb1⟩; have hB1 := bt hbel hb1; have b2 := b1.kept hb1; have b0' := b0.kept hb1)
    | (go_at_call 56; refine (state_any p1 288 c1 P _ hin1).mono ?_; rintro e w2 ⟨rfl, hb2⟩; rw [HS.out]; have hB2 := bt hB1 hb2; have b3 := b2.kept hb2; have b0'' := b0'.kept hb2)
    | (refine wpList_load_mid rfl 72 _ rfl w.heap.size 256 rfl (vals (P.drop 256)) _ (b0''.range 256 32 _ (by rw [← vals_drop, List.take_of_length_le (by rw [vals_length, HO.out]; exact Nat.le_refl _)])) Try.underlying72 rfl (by rw [vals_length, HO.out]; kernel_rfl) ?_)
    | (go_at_call 58; refine (HHD.out _).mono ?_; rintro e w3 ⟨rfl, hb3⟩; have hB3 := bt hB2 hb3; have b4 := b3.kept hb3; have b0''' := b0''.kept hb3))
  have c0 := (b0'''.alloc (.cells #[.int .i64 k0, .int .i64 k1, .int .i64 k2, .int .i64 k3] 31))
  have c1 := (b4.alloc (.cells #[.int .i64 k0, .int .i64 k1, .int .i64 k2, .int .i64 k3] 31))
  have c2 := Blk.new' w3 31 #[.int .i64 k0, .int .i64 k1, .int .i64 k2, .int .i64 k3]
  have hB4 := hB3.alloc hB3.size (.cells #[.int .i64 k0, .int .i64 k1, .int .i64 k2, .int .i64 k3] 31)
  have hl1 : w.heap.size + 1 < w3.heap.size := b4.lt
  clear b0 b0' b0'' b0''' b1 b2 b3 b4 hb1 hb2 hb3 hB1 hB2 hB3 hin1 hbel
  generalize hW : w3.alloc (.cells #[.int .i64 k0, .int .i64 k1, .int .i64 k2, .int .i64 k3] 31) = W at *
  clear hW
  generalize w3.heap.size = G1 at *
  refine wp_region_noPanic ?_
  refine wp_region_held_drew (S := fun w' => w'.cell? ⟨G1, 0, none⟩ = some (.int .i64 k0) ∧ w'.cell? ⟨G1, 1, none⟩ = some (.int .i64 k1) ∧ w'.cell? ⟨G1, 2, none⟩ = some (.int .i64 k2) ∧ w'.cell? ⟨G1, 3, none⟩ = some (.int .i64 k3)) (by kernel_rfl) (cells4_blk c2.drew) (fun hHeld => ?_)
  refine wpAnyH_take (i := 0) (v := ?_) rfl (by kernel_rfl) (by kernel_rfl) (by kernel_rfl) (fun _ _ _ h => h) (Or.inl ⟨by rfl, ?_⟩) hHeld ?_
  rotate_left
  · intro w hSw; try dsimp only at hSw
    go_simp; try (with_reducible rfl)
  try simp only [Act.put, List.getElem_toArray, List.getElem_cons_succ, List.getElem_cons_zero, List.setIfInBounds_toArray, List.set_cons_zero, List.set_cons_succ]
  refine wpAnyH_take (i := 1) (v := ?_) rfl (by kernel_rfl) (by kernel_rfl) (by kernel_rfl) (fun _ _ _ h => h) (Or.inl ⟨by rfl, ?_⟩) hHeld ?_
  rotate_left
  · intro w hSw; try dsimp only at hSw
    go_simp; try (with_reducible rfl)
  try simp only [Act.put, List.getElem_toArray, List.getElem_cons_succ, List.getElem_cons_zero, List.setIfInBounds_toArray, List.set_cons_zero, List.set_cons_succ]
  refine wpAnyH_take (i := 2) (v := ?_) rfl (by kernel_rfl) (by kernel_rfl) (by kernel_rfl) (fun _ _ _ h => h) (Or.inl ⟨by rfl, ?_⟩) hHeld ?_
  rotate_left
  · intro w hSw; try dsimp only at hSw
    go_simp; try (with_reducible rfl)
  try simp only [Act.put, List.getElem_toArray, List.getElem_cons_succ, List.getElem_cons_zero, List.setIfInBounds_toArray, List.set_cons_zero, List.set_cons_succ]
  refine wpAnyH_ready (rs := [3, 7]) (by kernel_rfl) (by simp) ?_
  refine AllReadyH.cons rfl (fun K hK => ?_) ?_
  · go_simp
    refine (HEN.out _ _ _ (in_blk c0.drew 0 256 (by rw [hP.1]; decide) (by rw [hP.1]; decide) hP.2 256 (by decide) (by decide))).mono ?_
    rintro e w5 ⟨rfl, hb5⟩
    try go_wp2_with fail
    refine hK.out _ _ (cells4_below hb5 hHeld) (fun hHeld => ?_)
    clear hK K
    try simp only [Act.put, List.getElem_toArray, List.getElem_cons_succ, List.getElem_cons_zero, List.setIfInBounds_toArray, List.set_cons_zero, List.set_cons_succ]
    refine wpAnyH_take (i := 4) (v := ?_) rfl (by kernel_rfl) (by kernel_rfl) (by kernel_rfl) (fun _ _ _ h => h) (Or.inl ⟨by rfl, ?_⟩) hHeld ?_
    rotate_left
    · intro w hSw; try dsimp only at hSw
      go_simp; try (with_reducible rfl)
    try simp only [Act.put, List.getElem_toArray, List.getElem_cons_succ, List.getElem_cons_zero, List.setIfInBounds_toArray, List.set_cons_zero, List.set_cons_succ]
    refine wpAnyH_take (i := 5) (v := ?_) rfl (by kernel_rfl) (by kernel_rfl) (by kernel_rfl) (fun _ _ _ h => h) (Or.inl ⟨by rfl, ?_⟩) hHeld ?_
    rotate_left
    · intro w hSw; try dsimp only at hSw
      go_simp; try (with_reducible rfl)
    try simp only [Act.put, List.getElem_toArray, List.getElem_cons_succ, List.getElem_cons_zero, List.setIfInBounds_toArray, List.set_cons_zero, List.set_cons_succ]
    refine wpAnyH_take (i := 6) (v := ?_) rfl (by kernel_rfl) (by kernel_rfl) (by kernel_rfl) (fun _ _ _ h => h) (Or.inl ⟨by rfl, ?_⟩) hHeld ?_
    rotate_left
    · intro w hSw; try dsimp only at hSw
      go_simp; try (with_reducible rfl)
    try simp only [Act.put, List.getElem_toArray, List.getElem_cons_succ, List.getElem_cons_zero, List.setIfInBounds_toArray, List.set_cons_zero, List.set_cons_succ]
    refine wpAnyH_ready (rs := [7]) (by kernel_rfl) (by simp) ?_
    refine AllReadyH.cons rfl (fun K hK => ?_) AllReadyH.nil
    go_simp
    refine hK.out _ _ (cells4_blk ((c2.drew.kept hb5).alloc _)) (fun hHeld => ?_)
    clear hK K
    try simp only [Act.put, List.getElem_toArray, List.getElem_cons_succ, List.getElem_cons_zero, List.setIfInBounds_toArray, List.set_cons_zero, List.set_cons_succ]
    refine wpAnyH_ready (rs := [8]) (by kernel_rfl) (by simp) ?_
    refine AllReadyH.cons rfl (fun K hK => ?_) AllReadyH.nil
    rw [if_pos (by rfl)]
    refine wp_store_blk 74 (.tmp 8) (.tmp 30) rfl _ 0 (vals A) rfl rfl (Blk.new w5 74 (vals (fillP 0))) (page_fits HAP.1 (fillP_length 0)) (sizeP HAP.1) (vals_one _) ?_
    intro w9 h9 ht9
    rw [page_whole HAP.1 (fillP_length 0)] at h9
    refine hK.out _ _ (cells4_blk (((c2.drew.kept hb5).alloc _).turned ht9 (by have := (c2.drew.kept hb5).lt; omega))) (fun hHeld => ?_)
    clear hK K
    try simp only [Act.put, List.getElem_toArray, List.getElem_cons_succ, List.getElem_cons_zero, List.setIfInBounds_toArray, List.set_cons_zero, List.set_cons_succ]
    refine wpAnyH_take (i := 9) (v := ?_) rfl (by kernel_rfl) (by kernel_rfl) (by kernel_rfl) (fun _ _ _ h => h) (Or.inl ⟨by rfl, ?_⟩) hHeld ?_
    rotate_left
    · intro w hSw; try dsimp only at hSw
      go_simp; try (with_reducible rfl)
    try simp only [Act.put, List.getElem_toArray, List.getElem_cons_succ, List.getElem_cons_zero, List.setIfInBounds_toArray, List.set_cons_zero, List.set_cons_succ]
    refine wpAnyH_done (by kernel_rfl) ?_ _
    refine NoPanic.normal ?_
    have d0 := ((c0.drew.kept hb5).alloc (.cells (vals (fillP 0)).toArray 74)).turned ht9 (by have := (c2.drew.kept hb5).lt; have := (c0.drew.kept hb5).lt; omega)
    have d1 := ((c1.drew.kept hb5).alloc (.cells (vals (fillP 0)).toArray 74)).turned ht9 (by have := (c2.drew.kept hb5).lt; have := (c1.drew.kept hb5).lt; omega)
    have d2 := ((c2.drew.kept hb5).alloc (.cells (vals (fillP 0)).toArray 74)).turned ht9 (by have := (c2.drew.kept hb5).lt; omega)
    have dB := ht9.below ((hB4.drew.trans (hb5.mono hB4.size)).alloc (by have := (hB4.drew.trans (hb5.mono hB4.size)).size; omega) (.cells (vals (fillP 0)).toArray 74)) (by have := (c2.drew.kept hb5).lt; omega)
    have hGA : G1 < w5.heap.size := (c2.drew.kept hb5).lt
    generalize w5.heap.size = GA at *
    clear hHeld ht9 hb5 c0 c1 c2 hB4
    have hdl := h9.page HAP.1
    have hdp := d0.page hP.1
    have hq := fun W => run_equalIn_page W A P HAP.1 hP.1
    cases hae : (ae != 0) with
    | true =>
      have HDC : Hid (decOk P = false) := by show _ = _; rw [HAG.out, show (ae == 0) = false from by rw [bne_iff_ne] at hae; exact beq_eq_false_iff_ne.2 hae]; rfl
      go_wp2_with (refine wpList_store_blk rfl 31 (.tmp 2) (.tmp 39) rfl _ _ [.int .i64 0, .int .i64 0, .int .i64 0, .int .i64 0] rfl rfl d1 (by simp) hdr_size hdr_one ?_; intro w10 h10 ht10)
      exact ret_hdr3 Try.results32 rfl h10 rfl ⟨.inl ⟨HDC.out, rfl⟩, ht10.below dB (by omega)⟩
    | false =>
      have HA0 : Hid ((ae == 0) = true) := by show _ = _; have := WalkArith.int_eq' hae; rw [this]; rfl
      cases hAP : (A == P) with
      | false =>
        have HDC : Hid (decOk P = false) := by show _ = _; rw [HAG.out, HA0.out, hAP]; rfl
        go_wp2_with (first
          | (refine wpList_load_guard (by rfl) 74 (.tmp 8) rfl GA 0 rfl (vals A) _ hdl Try.underlying74 rfl (sizeP HAP.1) ?_)
          | (refine wpList_load_guard (by rfl) 74 (.tmp 1) rfl w.heap.size 0 rfl (vals P) _ hdp Try.underlying74 rfl (sizeP hP.1) ?_)
          | (refine wpList_store_blk rfl 31 (.tmp 2) (.tmp 39) rfl _ _ [.int .i64 0, .int .i64 0, .int .i64 0, .int .i64 0] rfl rfl d1 (by simp) hdr_size hdr_one ?_; intro w10 h10 ht10))
        exact ret_hdr3 Try.results32 rfl h10 rfl ⟨.inl ⟨HDC.out, rfl⟩, ht10.below dB (by omega)⟩
      | true =>
        have HDC : Hid (decOk P = true) := by show _ = _; rw [HAG.out, HA0.out, hAP]; rfl
        go_wp2_with (first
          | (refine wpList_load_guard (by rfl) 74 (.tmp 8) rfl GA 0 rfl (vals A) _ hdl Try.underlying74 rfl (sizeP HAP.1) ?_)
          | (refine wpList_load_guard (by rfl) 74 (.tmp 1) rfl w.heap.size 0 rfl (vals P) _ hdp Try.underlying74 rfl (sizeP hP.1) ?_))
        clear hdl hdp hq h9
        refine wp_region_noPanic ?_
        refine wp_region_held_drew (S := fun w' => w'.cell? ⟨G1, 0, none⟩ = some (.int .i64 k0) ∧ w'.cell? ⟨G1, 1, none⟩ = some (.int .i64 k1) ∧ w'.cell? ⟨G1, 2, none⟩ = some (.int .i64 k2) ∧ w'.cell? ⟨G1, 3, none⟩ = some (.int .i64 k3)) (by kernel_rfl) (cells4_blk d2.drew) (fun hHeld => ?_)
        refine wpAnyH_take (i := 0) (v := ?_) rfl (by kernel_rfl) (by kernel_rfl) (by kernel_rfl) (fun _ _ _ h => h) (Or.inl ⟨by rfl, ?_⟩) hHeld ?_
        rotate_left
        · intro w hSw; try dsimp only at hSw
          go_simp; try (with_reducible rfl)
        try simp only [Act.put, List.getElem_toArray, List.getElem_cons_succ, List.getElem_cons_zero, List.setIfInBounds_toArray, List.set_cons_zero, List.set_cons_succ]
        refine wpAnyH_take (i := 1) (v := ?_) rfl (by kernel_rfl) (by kernel_rfl) (by kernel_rfl) (fun _ _ _ h => h) (Or.inl ⟨by rfl, ?_⟩) hHeld ?_
        rotate_left
        · intro w hSw; try dsimp only at hSw
          go_simp; try (with_reducible rfl)
        try simp only [Act.put, List.getElem_toArray, List.getElem_cons_succ, List.getElem_cons_zero, List.setIfInBounds_toArray, List.set_cons_zero, List.set_cons_succ]
        refine wpAnyH_take (i := 2) (v := ?_) rfl (by kernel_rfl) (by kernel_rfl) (by kernel_rfl) (fun _ _ _ h => h) (Or.inl ⟨by rfl, ?_⟩) hHeld ?_
        rotate_left
        · intro w hSw; try dsimp only at hSw
          go_simp; try (with_reducible rfl)
        try simp only [Act.put, List.getElem_toArray, List.getElem_cons_succ, List.getElem_cons_zero, List.setIfInBounds_toArray, List.set_cons_zero, List.set_cons_succ]
        refine wpAnyH_ready (rs := [3]) (by kernel_rfl) (by simp) ?_
        refine AllReadyH.cons rfl (fun K hK => ?_) AllReadyH.nil
        go_simp
        refine (cloneB_any _ 256 256 (P.take 256) _ (in_blk d0.drew 0 256 (by rw [hP.1]; decide) (by rw [hP.1]; decide) hP.2 256 (by decide) (by decide))).mono ?_
        rintro e w11 ⟨p11, c11, rfl, hin11, hb11, hnew11⟩
        try go_wp2_with fail
        refine hK.out _ _ (cells4_below hb11 hHeld) (fun hHeld => ?_)
        clear hK K
        try simp only [Act.put, List.getElem_toArray, List.getElem_cons_succ, List.getElem_cons_zero, List.setIfInBounds_toArray, List.set_cons_zero, List.set_cons_succ]
        refine wpAnyH_ready (rs := [4]) (by kernel_rfl) (by simp) ?_
        refine AllReadyH.cons rfl (fun K hK => ?_) AllReadyH.nil
        rw [if_pos (by rfl)]
        refine wp_store_blk 31 (.tmp 2) (.tmp 40) rfl _ 0 [.int .i64 k0, .int .i64 k1, .int .i64 k2, .int .i64 k3] rfl rfl (d1.drew.kept hb11) (by simp) hdr_size hdr_one ?_
        intro w12 h12 ht12
        refine hK.out _ _ (cells4_blk ((d2.drew.kept hb11).turned ht12 (by omega))) (fun hHeld => ?_)
        clear hK K
        try simp only [Act.put, List.getElem_toArray, List.getElem_cons_succ, List.getElem_cons_zero, List.setIfInBounds_toArray, List.set_cons_zero, List.set_cons_succ]
        refine wpAnyH_take (i := 5) (v := ?_) rfl (by kernel_rfl) (by kernel_rfl) (by kernel_rfl) (fun _ _ _ h => h) (Or.inl ⟨by rfl, ?_⟩) hHeld ?_
        rotate_left
        · intro w hSw; try dsimp only at hSw
          go_simp; try (with_reducible rfl)
        try simp only [Act.put, List.getElem_toArray, List.getElem_cons_succ, List.getElem_cons_zero, List.setIfInBounds_toArray, List.set_cons_zero, List.set_cons_succ]
        refine wpAnyH_take (i := 6) (v := ?_) rfl (by kernel_rfl) (by kernel_rfl) (by kernel_rfl) (fun _ _ _ h => h) (Or.inl ⟨by rfl, ?_⟩) hHeld ?_
        rotate_left
        · intro w hSw; try dsimp only at hSw
          go_simp; try (with_reducible rfl)
        try simp only [Act.put, List.getElem_toArray, List.getElem_cons_succ, List.getElem_cons_zero, List.setIfInBounds_toArray, List.set_cons_zero, List.set_cons_succ]
        refine wpAnyH_done (by kernel_rfl) ?_ _
        refine NoPanic.normal ?_
        go_wp2
        have hin12 : In w12 p11 256 c11 (P.take 256) := hin11.same (by rw [ht12.size]; exact Nat.le_refl _) (fun a h0 ha _ => ht12.block _ (by have := hnew11 a h0 ha; have := d1.drew.lt; omega))
        exact ret_hdr3 Try.results32 rfl h12 rfl ⟨.inr ⟨HDC.out, p11, c11, rfl, hin12⟩, ht12.below (dB.drew.trans (hb11.mono dB.size)) (by omega)⟩
  refine AllReadyH.cons rfl (fun K hK => ?_) AllReadyH.nil
  go_simp
  refine hK.out _ _ (cells4_below (below_alloc _ _) hHeld) (fun hHeld => ?_)
  clear hK K
  try simp only [Act.put, List.getElem_toArray, List.getElem_cons_succ, List.getElem_cons_zero, List.setIfInBounds_toArray, List.set_cons_zero, List.set_cons_succ]
  refine wpAnyH_ready (rs := [3]) (by kernel_rfl) (by simp) ?_
  refine AllReadyH.cons rfl (fun K hK => ?_) AllReadyH.nil
  go_simp
  refine (HEN.out _ _ _ (in_blk (c0.drew.alloc _) 0 256 (by rw [hP.1]; decide) (by rw [hP.1]; decide) hP.2 256 (by decide) (by decide))).mono ?_
  rintro e w5 ⟨rfl, hb5⟩
  try go_wp2_with fail
  refine hK.out _ _ (cells4_below hb5 hHeld) (fun hHeld => ?_)
  clear hK K
  try simp only [Act.put, List.getElem_toArray, List.getElem_cons_succ, List.getElem_cons_zero, List.setIfInBounds_toArray, List.set_cons_zero, List.set_cons_succ]
  refine wpAnyH_take (i := 4) (v := ?_) rfl (by kernel_rfl) (by kernel_rfl) (by kernel_rfl) (fun _ _ _ h => h) (Or.inl ⟨by rfl, ?_⟩) hHeld ?_
  rotate_left
  · intro w hSw; try dsimp only at hSw
    go_simp; try (with_reducible rfl)
  try simp only [Act.put, List.getElem_toArray, List.getElem_cons_succ, List.getElem_cons_zero, List.setIfInBounds_toArray, List.set_cons_zero, List.set_cons_succ]
  refine wpAnyH_take (i := 5) (v := ?_) rfl (by kernel_rfl) (by kernel_rfl) (by kernel_rfl) (fun _ _ _ h => h) (Or.inl ⟨by rfl, ?_⟩) hHeld ?_
  rotate_left
  · intro w hSw; try dsimp only at hSw
    go_simp; try (with_reducible rfl)
  try simp only [Act.put, List.getElem_toArray, List.getElem_cons_succ, List.getElem_cons_zero, List.setIfInBounds_toArray, List.set_cons_zero, List.set_cons_succ]
  refine wpAnyH_take (i := 6) (v := ?_) rfl (by kernel_rfl) (by kernel_rfl) (by kernel_rfl) (fun _ _ _ h => h) (Or.inl ⟨by rfl, ?_⟩) hHeld ?_
  rotate_left
  · intro w hSw; try dsimp only at hSw
    go_simp; try (with_reducible rfl)
  try simp only [Act.put, List.getElem_toArray, List.getElem_cons_succ, List.getElem_cons_zero, List.setIfInBounds_toArray, List.set_cons_zero, List.set_cons_succ]
  refine wpAnyH_ready (rs := [8]) (by kernel_rfl) (by simp) ?_
  refine AllReadyH.cons rfl (fun K hK => ?_) AllReadyH.nil
  rw [if_pos (by rfl)]
  refine wp_store_blk 74 (.tmp 8) (.tmp 30) rfl _ 0 (vals A) rfl rfl ((Blk.new W.drew 74 (vals (fillP 0))).kept hb5) (page_fits HAP.1 (fillP_length 0)) (sizeP HAP.1) (vals_one _) ?_
  intro w9 h9 ht9
  rw [page_whole HAP.1 (fillP_length 0)] at h9
  refine hK.out _ _ (cells4_blk (((c2.drew.alloc _).kept hb5).turned ht9 (by have := c2.lt; show _ ≠ W.heap.size; omega))) (fun hHeld => ?_)
  clear hK K
  try simp only [Act.put, List.getElem_toArray, List.getElem_cons_succ, List.getElem_cons_zero, List.setIfInBounds_toArray, List.set_cons_zero, List.set_cons_succ]
  refine wpAnyH_take (i := 9) (v := ?_) rfl (by kernel_rfl) (by kernel_rfl) (by kernel_rfl) (fun _ _ _ h => h) (Or.inl ⟨by rfl, ?_⟩) hHeld ?_
  rotate_left
  · intro w hSw; try dsimp only at hSw
    go_simp; try (with_reducible rfl)
  try simp only [Act.put, List.getElem_toArray, List.getElem_cons_succ, List.getElem_cons_zero, List.setIfInBounds_toArray, List.set_cons_zero, List.set_cons_succ]
  refine wpAnyH_done (by kernel_rfl) ?_ _
  refine NoPanic.normal ?_
  have d0 := ((c0.drew.alloc _).kept hb5).turned ht9 (by have := c0.lt; show _ ≠ W.heap.size; omega)
  have d1 := ((c1.drew.alloc _).kept hb5).turned ht9 (by have := c1.lt; show _ ≠ W.heap.size; omega)
  have d2 := ((c2.drew.alloc _).kept hb5).turned ht9 (by have := c2.lt; show _ ≠ W.heap.size; omega)
  have dB := ht9.below (bt (hB4.drew.alloc hB4.size (.cells (vals (fillP 0)).toArray 74)) hb5) (by show _ ≤ W.heap.size; exact hB4.size)
  have hGA : G1 < W.heap.size := c2.lt
  change Blk w9 W.heap.size 74 (vals A) at h9
  generalize W.heap.size = GA at *
  clear hHeld ht9 hb5 c0 c1 c2 hB4
  have hdl := h9.page HAP.1
  have hdp := d0.page hP.1
  have hq := fun W => run_equalIn_page W A P HAP.1 hP.1
  cases hae : (ae != 0) with
  | true =>
    have HDC : Hid (decOk P = false) := by show _ = _; rw [HAG.out, show (ae == 0) = false from by rw [bne_iff_ne] at hae; exact beq_eq_false_iff_ne.2 hae]; rfl
    go_wp2_with (refine wpList_store_blk rfl 31 (.tmp 2) (.tmp 39) rfl _ _ [.int .i64 0, .int .i64 0, .int .i64 0, .int .i64 0] rfl rfl d1 (by simp) hdr_size hdr_one ?_; intro w10 h10 ht10)
    exact ret_hdr3 Try.results32 rfl h10 rfl ⟨.inl ⟨HDC.out, rfl⟩, ht10.below dB (by omega)⟩
  | false =>
    have HA0 : Hid ((ae == 0) = true) := by show _ = _; have := WalkArith.int_eq' hae; rw [this]; rfl
    cases hAP : (A == P) with
    | false =>
      have HDC : Hid (decOk P = false) := by show _ = _; rw [HAG.out, HA0.out, hAP]; rfl
      go_wp2_with (first
        | (refine wpList_load_guard (by rfl) 74 (.tmp 8) rfl GA 0 rfl (vals A) _ hdl Try.underlying74 rfl (sizeP HAP.1) ?_)
        | (refine wpList_load_guard (by rfl) 74 (.tmp 1) rfl w.heap.size 0 rfl (vals P) _ hdp Try.underlying74 rfl (sizeP hP.1) ?_)
        | (refine wpList_store_blk rfl 31 (.tmp 2) (.tmp 39) rfl _ _ [.int .i64 0, .int .i64 0, .int .i64 0, .int .i64 0] rfl rfl d1 (by simp) hdr_size hdr_one ?_; intro w10 h10 ht10))
      exact ret_hdr3 Try.results32 rfl h10 rfl ⟨.inl ⟨HDC.out, rfl⟩, ht10.below dB (by omega)⟩
    | true =>
      have HDC : Hid (decOk P = true) := by show _ = _; rw [HAG.out, HA0.out, hAP]; rfl
      go_wp2_with (first
        | (refine wpList_load_guard (by rfl) 74 (.tmp 8) rfl GA 0 rfl (vals A) _ hdl Try.underlying74 rfl (sizeP HAP.1) ?_)
        | (refine wpList_load_guard (by rfl) 74 (.tmp 1) rfl w.heap.size 0 rfl (vals P) _ hdp Try.underlying74 rfl (sizeP hP.1) ?_))
      clear hdl hdp hq h9
      refine wp_region_noPanic ?_
      refine wp_region_held_drew (S := fun w' => w'.cell? ⟨G1, 0, none⟩ = some (.int .i64 k0) ∧ w'.cell? ⟨G1, 1, none⟩ = some (.int .i64 k1) ∧ w'.cell? ⟨G1, 2, none⟩ = some (.int .i64 k2) ∧ w'.cell? ⟨G1, 3, none⟩ = some (.int .i64 k3)) (by kernel_rfl) (cells4_blk d2.drew) (fun hHeld => ?_)
      refine wpAnyH_take (i := 0) (v := ?_) rfl (by kernel_rfl) (by kernel_rfl) (by kernel_rfl) (fun _ _ _ h => h) (Or.inl ⟨by rfl, ?_⟩) hHeld ?_
      rotate_left
      · intro w hSw; try dsimp only at hSw
        go_simp; try (with_reducible rfl)
      try simp only [Act.put, List.getElem_toArray, List.getElem_cons_succ, List.getElem_cons_zero, List.setIfInBounds_toArray, List.set_cons_zero, List.set_cons_succ]
      refine wpAnyH_take (i := 1) (v := ?_) rfl (by kernel_rfl) (by kernel_rfl) (by kernel_rfl) (fun _ _ _ h => h) (Or.inl ⟨by rfl, ?_⟩) hHeld ?_
      rotate_left
      · intro w hSw; try dsimp only at hSw
        go_simp; try (with_reducible rfl)
      try simp only [Act.put, List.getElem_toArray, List.getElem_cons_succ, List.getElem_cons_zero, List.setIfInBounds_toArray, List.set_cons_zero, List.set_cons_succ]
      refine wpAnyH_take (i := 2) (v := ?_) rfl (by kernel_rfl) (by kernel_rfl) (by kernel_rfl) (fun _ _ _ h => h) (Or.inl ⟨by rfl, ?_⟩) hHeld ?_
      rotate_left
      · intro w hSw; try dsimp only at hSw
        go_simp; try (with_reducible rfl)
      try simp only [Act.put, List.getElem_toArray, List.getElem_cons_succ, List.getElem_cons_zero, List.setIfInBounds_toArray, List.set_cons_zero, List.set_cons_succ]
      refine wpAnyH_ready (rs := [3]) (by kernel_rfl) (by simp) ?_
      refine AllReadyH.cons rfl (fun K hK => ?_) AllReadyH.nil
      go_simp
      refine (cloneB_any _ 256 256 (P.take 256) _ (in_blk d0.drew 0 256 (by rw [hP.1]; decide) (by rw [hP.1]; decide) hP.2 256 (by decide) (by decide))).mono ?_
      rintro e w11 ⟨p11, c11, rfl, hin11, hb11, hnew11⟩
      try go_wp2_with fail
      refine hK.out _ _ (cells4_below hb11 hHeld) (fun hHeld => ?_)
      clear hK K
      try simp only [Act.put, List.getElem_toArray, List.getElem_cons_succ, List.getElem_cons_zero, List.setIfInBounds_toArray, List.set_cons_zero, List.set_cons_succ]
      refine wpAnyH_ready (rs := [4]) (by kernel_rfl) (by simp) ?_
      refine AllReadyH.cons rfl (fun K hK => ?_) AllReadyH.nil
      rw [if_pos (by rfl)]
      refine wp_store_blk 31 (.tmp 2) (.tmp 40) rfl _ 0 [.int .i64 k0, .int .i64 k1, .int .i64 k2, .int .i64 k3] rfl rfl (d1.drew.kept hb11) (by simp) hdr_size hdr_one ?_
      intro w12 h12 ht12
      refine hK.out _ _ (cells4_blk ((d2.drew.kept hb11).turned ht12 (by omega))) (fun hHeld => ?_)
      clear hK K
      try simp only [Act.put, List.getElem_toArray, List.getElem_cons_succ, List.getElem_cons_zero, List.setIfInBounds_toArray, List.set_cons_zero, List.set_cons_succ]
      refine wpAnyH_take (i := 5) (v := ?_) rfl (by kernel_rfl) (by kernel_rfl) (by kernel_rfl) (fun _ _ _ h => h) (Or.inl ⟨by rfl, ?_⟩) hHeld ?_
      rotate_left
      · intro w hSw; try dsimp only at hSw
        go_simp; try (with_reducible rfl)
      try simp only [Act.put, List.getElem_toArray, List.getElem_cons_succ, List.getElem_cons_zero, List.setIfInBounds_toArray, List.set_cons_zero, List.set_cons_succ]
      refine wpAnyH_take (i := 6) (v := ?_) rfl (by kernel_rfl) (by kernel_rfl) (by kernel_rfl) (fun _ _ _ h => h) (Or.inl ⟨by rfl, ?_⟩) hHeld ?_
      rotate_left
      · intro w hSw; try dsimp only at hSw
        go_simp; try (with_reducible rfl)
      try simp only [Act.put, List.getElem_toArray, List.getElem_cons_succ, List.getElem_cons_zero, List.setIfInBounds_toArray, List.set_cons_zero, List.set_cons_succ]
      refine wpAnyH_done (by kernel_rfl) ?_ _
      refine NoPanic.normal ?_
      go_wp2
      have hin12 : In w12 p11 256 c11 (P.take 256) := hin11.same (by rw [ht12.size]; exact Nat.le_refl _) (fun a h0 ha _ => ht12.block _ (by have := hnew11 a h0 ha; have := d1.drew.lt; omega))
      exact ret_hdr3 Try.results32 rfl h12 rfl ⟨.inr ⟨HDC.out, p11, c11, rfl, hin12⟩, ht12.below (dB.drew.trans (hb11.mono dB.size)) (by omega)⟩
end Go.Proofs.Ytfgelncfmopibaa.Pg
