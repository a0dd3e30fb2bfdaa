/-
  Values off bytes: take, also of nothing; what readPart does.
-/
import Derived.Test.YtpikaagdiafieaaMjB4
import Derived.Test.YtpikaagdiafieaaMjRecs
namespace Go.Proofs.Ytpikaagdiafieaa
open Go.RowKit
theorem In.sub0 {w : World} {b o n c : Nat} {xs : List Nat} (h : In w (some ⟨b, o, none⟩) n c xs) (a m : Nat) (he : a + m ≤ n) : In w (some ⟨b, o + a, none⟩) m (c - a) (subL xs a m) := by
  have hl := h.len
  have hc := h.cap
  have hm := h.max
  have hr := h.room
  refine ⟨by rw [subL_length (by omega)], by omega, by omega, by omega, fun x hx => h.byte x (List.mem_of_mem_drop (List.mem_of_mem_take hx)), fun h0 => ?_, fun h => by cases h⟩
  obtain ⟨b', o', hp, hlt, hcl⟩ := h.at' (by omega)
  cases hp
  refine ⟨b, o + a, rfl, hlt, fun i hi => ?_⟩
  rw [Nat.add_assoc, hcl (a + i) (by omega)]
  simp [el, subL, List.getElem?_take_of_lt hi, List.getElem?_drop]
theorem slice_lh0 (b o n c a m e : Nat) (hq : a + m = e) (ha : a < n) (he : e ≤ n) (hc : n ≤ c) (W : World) : (Instr.slice 53 (.slice (some ⟨b, o, none⟩) n c) (some (.int .i64 (a : Int))) (some (.int .i64 (e : Int))) none).run Try.prog W = .ok (.slice (some ⟨b, o + a, none⟩) m (c - a)) W := by
  have h1 : ¬ c = a := by omega
  have h2 : a ≤ e := by omega
  have h3 : e ≤ c := by omega
  have h4 : e - a = m := by omega
  simp [Instr.slice, Instr.sliceBounds, Instr.sliceBound, run_underlying Try.underlying53, asIntOf, h1, h2, h3, h4, addr_add]
/-- Fields that fill their bytes have values, whatever the bytes. -/
theorem unpackE_al {ws : List Int} {xs : List Nat} (hw : widthOk ws = true) (hl : xs.length = bytesW ws) (ha : atW ws ws.length = 8 * bytesW ws) : unpackE ws xs = 0 := by
  unfold unpackE
  rw [if_neg (by rw [hw]; simp), if_neg (by simpa using hl)]
  have e : tailN ws xs = 0 := by unfold tailN; rw [ha, Nat.sub_self]; rfl
  rw [if_neg (by simpa using e)]
theorem unpackL_al {ws : List Int} {xs : List Nat} (hw : widthOk ws = true) (hl : xs.length = bytesW ws) (ha : atW ws ws.length = 8 * bytesW ws) : unpackL ws xs = valsTo ws xs ws.length := by
  unfold unpackL; rw [if_pos (unpackE_al hw hl ha)]
theorem el_vals {ws : List Int} {xs : List Nat} {i : Nat} (hi : i < ws.length) : el (valsTo ws xs ws.length) i = ((getN xs (atW ws i) (eI ws i).toNat : Nat) : Int) := by
  unfold el; rw [valsTo_getD ws xs i hi]
set_option linter.unusedSimpArgs false in
set_option maxRecDepth 100000 in
set_option maxHeartbeats 1000000 in
theorem take_al (g o N c k m : Nat) (xs : List Nat) (wp : Option Addr) (wn wc : Nat) (ws : List Int) (w : World) (hb : In w (some ⟨g, o, none⟩) N c xs) (hN : N ≤ 100000)
    (hw : InI w wp wn wc ws) (hok : widthOk ws = true) (hm : bytesW ws = m) (hal : atW ws ws.length = 8 * bytesW ws) (hk0 : k < N) (hk : k + m ≤ N) :
    Calls Try.prog 86 #[.slice (some ⟨g, o, none⟩) N c, .int .i64 (k : Int), .slice wp wn wc] w fun e w' =>
      ∃ p' c', e = .returned (.tuple #[.slice p' wn c', .int .i64 ((k + m : Nat) : Int)]) ∧ In64 w' p' wn c' (valsTo ws (subL xs k m) ws.length) ∧ Below w.heap.size w w' ∧ ∀ a, p' = some a → w.heap.size ≤ a.block := by
  have hsub : In w (some ⟨g, o + k, none⟩) m (c - k) (subL xs k m) := hb.sub0 k m hk
  have HWN : Hid (ws.length = wn) := hw.len
  have hwd := width_ok wp wn wc ws w hw hok
  rw [hm] at hwd
  have hun := unpack_any wp (some ⟨g, o + k, none⟩) wn wc m (c - k) ws (subL xs k m) w hw hsub
  have hsl_ : (subL xs k m).length = bytesW ws := by rw [hsub.len, hm]
  rw [unpackE_al hok hsl_ hal, unpackL_al hok hsl_ hal] at hun
  have hsl := slice_lh0 g o N c k m (k + m) rfl hk0 hk hb.cap
  have hadd : wrap64 ((k : Int) + (m : Int)) = ((k + m : Nat) : Int) := wrap64_add (by omega)
  have HV : Hid ((valsTo ws (subL xs k m) ws.length).length = wn) := by show _ = _; rw [valsTo_length, HWN.out]
  obtain ⟨q, HQ⟩ : ∃ q : Nat, Hid (k + m = q) := ⟨_, rfl⟩
  rw [HQ.out] at hsl hadd ⊢
  clear hb hN hok hm hk hsub hal hsl_
  generalize valsTo ws (subL xs k m) ws.length = L at *
  go_enter Try.func86, Try.ntmps86
  go_wp2_with (first
    | (go_at_call 93; refine hwd.mono ?_; rintro e w1 ⟨rfl, hw1⟩; have hw2 := hw1.symm; subst hw2; clear hw1 hwd)
    | (go_at_call 94; refine hun.mono ?_; rintro e w1 ⟨p', n', c', rfl, hin, hb1, hf1⟩; have hn' : n' = wn := by { rw [← hin.len]; exact HV.out }; subst hn'))
  go_ret2
  refine ⟨p', c', ?_, hin, hb1, hf1⟩
  show Ending.returned (.tuple #[_, .int .i64 (wrap64 ((k : Int) + (m : Int)))]) = _
  rw [hadd]
  rfl
theorem run_store_blk1 {w : World} {g i : Nat} {t : TypeId} {cs : List Value} (h : Blk w g t cs) (hi : i < cs.length) (ty : TypeId) (hz : (Try.prog.info? ty).map (·.size) = some 1) (v : Value) (hv : v.oneCell' = true) (hc : v.cells = #[v]) :
    (storeVar ty ⟨g, i, none⟩ v).run Try.prog w = .ok () (w.setCell ⟨g, i, none⟩ v) := by
  have hcell := h.cell i
  rw [List.getElem?_eq_getElem hi] at hcell
  have hst := run_storeCells_cells (P := Try.prog) g i [v] 0 w (fun j hj => by simp at hj; subst hj; simp [hcell]) (fun j hj => by simp at hj; subst hj; simpa using h.frozen i) (by simpa using hv)
  cases hq : Try.prog.info? ty with
  | none => simp [hq] at hz
  | some ii =>
    have hs : 1 = ii.size := by simp [hq] at hz; omega
    simp only [storeVar, sizeOf, typeInfo, Sem.run_bind, hc]
    simp [← hs, hq, hst, World.setCells]
theorem wp_store_cell {op : Oper} {a : Act} {w : World} {K : Act → World → Prop} {Q : Exit → Act → World → Prop} (ty : TypeId) (x y : Operand) (ho : op.op = .store ty x y)
    (g i : Nat) (v : Value) (hx : a.eval x = .pointer (some ⟨g, i, none⟩)) (hy : a.eval y = v) {t : TypeId} {cs : List Value} (h : Blk w g t cs) (hi : i < cs.length)
    (hz : (Try.prog.info? ty).map (·.size) = some 1) (hv : v.oneCell' = true)
    (hK : ∀ w', Blk w' g t (cs.set i v) → Turned w w' g → K (a.put op.dst undef) w') (hc : v.cells = #[v] := by rfl) : op.wp Try.prog a w K Q := by
  have hrun := run_store_blk1 h hi ty hz v hv hc
  unfold Oper.wp execOp
  simp only [ho, hx, hy, Instr.storeAt, Instr.sureAddr, Sem.run_bind, Sem.run_pure, Result.andThen_ok, hrun]
  exact hK _ (h.set i v) (Turned.setCell _ _ _)
theorem wpList_store_cell {ops : Array Oper} {rest : List Oper} {op : Oper} {a : Act} {w : World} {Q : Exit → Act → World → Prop} (hgd : op.guard = none) (ty : TypeId) (x y : Operand) (ho : op.op = .store ty x y)
    (g i : Nat) (v : Value) (hx : a.eval x = .pointer (some ⟨g, i, none⟩)) (hy : a.eval y = v) {t : TypeId} {cs : List Value} (h : Blk w g t cs) (hi : i < cs.length)
    (hz : (Try.prog.info? ty).map (·.size) = some 1) (hv : v.oneCell' = true)
    (hK : ∀ w', Blk w' g t (cs.set i v) → Turned w w' g → wpList Try.prog ops Q rest (a.put op.dst undef) w') (hc : v.cells = #[v] := by rfl) : wpList Try.prog ops Q (op :: rest) a w :=
  wpList_plain hgd fun _ hKK => wp_store_cell ty x y ho g i v hx hy h hi hz hv (fun w' h1 h2 => hKK _ _ (hK w' h1 h2)) hc
theorem sizeL : (Try.prog.info? 2).map (·.size) = some 1 := by kernel_rfl
theorem sizeBs : (Try.prog.info? 22).map (·.size) = some 1 := by kernel_rfl
theorem sizeLs : (Try.prog.info? 23).map (·.size) = some 1 := by kernel_rfl
theorem sizeRs : (Try.prog.info? 34).map (·.size) = some 1 := by kernel_rfl
/-- A number without a sign taken for one with a sign. -/
def wI (x : Nat) : Int := IntKind.i64.wrap (x : Int)
theorem wI_small {x : Nat} (h : x < 9223372036854775808) : wI x = (x : Int) := by unfold wI; rw [IntKind.wrap_i64]; omega
theorem wI_64 (x : Nat) : wrap64 (x : Int) = wI x := by unfold wI; rw [IntWalk.i64_left]
/-- The value of a field. -/
def fld (ws : List Int) (xs : List Nat) (i : Nat) : Nat := getN xs (atW ws i) (eI ws i).toNat
/-- What a part's bytes tell, with m blocks. -/
def readPartP (k gn pt : Int) (xs : List Nat) (m : Nat) : MP := ⟨k, gn, pt, wI (fld [64] (subL xs 16 8) 0), boolsL (subL xs 24 8) m, intsL (valsTo (List.replicate m 24) (subL xs 32 (3 * m)) m), []⟩
theorem repeat_zero (b o c : Nat) (w : World) : Calls Try.prog 92 #[.slice (some ⟨b, o, none⟩) 1 c, .int .i64 0] w fun e w' => ∃ g, e = .returned (.slice (some ⟨g, 0, none⟩) 0 0) ∧ InI w' (some ⟨g, 0, none⟩) 0 0 [] ∧ Below w.heap.size w w' := by
  obtain ⟨i0, hi, hz0, hz1, hz2⟩ := info_parts info3
  have hcp := fun (W : World) => run_copy_none (P := Try.prog) W 101 101 3 3 (some ⟨w.heap.size, 0, none⟩) (some ⟨b, o, none⟩) 0 0 1 c Try.underlying101 size3 (by decide)
  have hm := fun (W : World) => mul_one' 0 (by omega) W
  go_enter Try.func92, Try.ntmps92
  go_upto_region 7 with (first
    | (go_at_call 99; refine (hm _).mono ?_; rintro e w' ⟨rfl, hw'⟩; have hw2 := hw'.symm; subst hw2; clear hw')
    | (at_make; refine wpList_make_full _ rfl _ _ 101 rfl w.heap.size 3 i0 (.int .i64 0) 1 Try.underlying101 hi hz0 hz1 .i64 .i64 _ _ 0 rfl rfl rfl rfl (by rw [hz2]; omega) (by unfold maxLen; omega) (Nat.le_refl _) ?_; intro w1 hown1 hgrow1))
  have hb1 := below_grown0 hgrow1
  have hlt : w.heap.size < w1.heap.size := by
    rcases hown1.2 with ⟨h', _⟩ | ⟨g', cap', cur, h', _, hg, _⟩
    · simp at h'
    · simp only [Value.slice.injEq, Option.some.injEq, Addr.mk.injEq, and_true, true_and] at h'
      rw [← h'.1] at hg
      rcases Nat.lt_or_ge w.heap.size w1.heap.size with h' | h'
      · exact h'
      · rw [Array.getElem?_eq_none h'] at hg; simp at hg
  clear hown1 hgrow1
  go_wp2
  go_loopw [8] (fun i wr => i = .int .i64 0 ∧ wr = w1) (fun _ _ => 0)
  case atStart => exact ⟨rfl, rfl⟩
  case round =>
    obtain ⟨rfl, rfl⟩ := hrel
    go_wp2
    go_ret
    exact ⟨_, rfl, ⟨rfl, Nat.le_refl _, Nat.zero_le _, Nat.zero_le _, fun h => by omega, fun h => by cases h⟩, hb1⟩
theorem wearW_all (n : Nat) (hn : n ≤ 64) (w : World) : Calls Try.prog 83 #[.int .i64 (n : Int)] w fun e w' => ∃ g c, e = .returned (.slice (some ⟨g, 0, none⟩) n c) ∧ InI w' (some ⟨g, 0, none⟩) n c (List.replicate n 24) ∧ Below w.heap.size w w' := by
  by_cases h1 : 1 ≤ n
  · exact wearW_any' n h1 hn w
  · obtain rfl : n = 0 := by omega
    go_enter Try.func83, Try.ntmps83
    go_wp2_with (go_at_call 92; refine (repeat_zero _ _ 1 _).mono ?_; rintro e w1 ⟨g, rfl, hin, hbel1⟩)
    go_ret
    exact ⟨g, 0, rfl, hin, bt (below_alloc _ _) hbel1⟩
theorem at_wear (n : Nat) : atW (List.replicate n 24) (List.replicate n (24 : Int)).length = 8 * bytesW (List.replicate n 24) := by
  rw [bytes_wear]
  unfold atW
  rw [List.length_replicate, List.take_of_length_le (by simp), sumW_rep]
  omega
theorem wear_lim {m : Nat} {xs : List Nat} : ∀ j, j < m → el (valsTo (List.replicate m 24) xs m) j ≤ 16777215 := by
  intro j hj
  have e := el_vals (ws := List.replicate m 24) (xs := xs) (i := j) (by simpa using hj)
  rw [List.length_replicate] at e
  rw [e, eI_rep hj]
  have := getN_lt xs (atW (List.replicate m 24) j) 24
  show ((getN xs (atW (List.replicate m 24) j) 24 : Nat) : Int) ≤ 16777215
  omega
set_option linter.unusedSimpArgs false in
set_option maxRecDepth 100000 in
set_option maxHeartbeats 2000000 in
theorem readPart_any (B g gb ob c m : Nat) (k gn pt : Int) (xs : List Nat) (w : World) (hB : B ≤ g) (hp : Blk w g 42 [.int .i64 k, .int .i64 gn, .int .i64 pt, .int .i64 0, .slice none 0 0, .slice none 0 0, .slice none 0 0])
    (hb : ∀ W, Below B w W → In W (some ⟨gb, ob, none⟩) 256 c xs) (hm : m ≤ 64) :
    Calls Try.prog 87 #[.pointer (some ⟨g, 0, none⟩), .slice (some ⟨gb, ob, none⟩) 256 c, .int .i64 16, .int .i64 (m : Int)] w fun e w' =>
      e = .returned (.tuple #[]) ∧ ∃ V : PV, Blk w' g 42 (V.cells (readPartP k gn pt xs m)) ∧ OwnP w.heap.size w' V (readPartP k gn pt xs m) ∧ Below B w w' := by
  have hBw : B ≤ w.heap.size := Nat.le_trans hB (Nat.le_of_lt hp.lt)
  have hcap : 256 ≤ c := (hb w (Below.refl _ _)).cap
  have hs2 : ∀ W : World, (Instr.slice 53 (.slice (some ⟨gb, ob, none⟩) 256 c) (some (.int .i64 24)) (some (.int .i64 32)) none).run Try.prog W = .ok (.slice (some ⟨gb, ob + 24, none⟩) 8 (c - 24)) W := fun W => slice_lh0 gb ob 256 c 24 8 32 rfl (by decide) (by decide) hcap W
  have HF : Hid (el (valsTo [64] (subL xs 16 8) 1) 0 = ((fld [64] (subL xs 16 8) 0 : Nat) : Int)) := el_vals (ws := [64]) (xs := subL xs 16 8) (i := 0) (by decide)
  have HE : Hid (readPartP k gn pt xs m = ⟨k, gn, pt, wI (fld [64] (subL xs 16 8) 0), boolsL (subL xs 24 8) m, intsL (valsTo (List.replicate m 24) (subL xs 32 (3 * m)) m), []⟩) := rfl
  generalize fld [64] (subL xs 16 8) 0 = F0 at *
  have hwr1 : IntKind.i64.wrap (F0 : Int) = wI F0 := rfl
  have hwr2 : wrap64 (F0 : Int) = wI F0 := wI_64 F0
  generalize wI F0 = G0 at *
  have HCP : Hid (256 ≤ c) := hcap
  clear hcap
  go_enter Try.func87, Try.ntmps87
  go_upto_region 1 with (first
    | (go_at_call 81; refine (seqW_any _).mono ?_; rintro e w1 ⟨gw, cw, rfl, hw1, hb1⟩; have hB1 : Below B w w1 := hb1.mono hBw)
    | (go_at_call 86; refine (take_al gb ob 256 c 16 8 xs _ 1 _ [64] _ (hb _ hB1) (by decide) hw1 (by decide) bytes_seq (by decide) (by decide) (by decide)).mono ?_; rintro e w2 ⟨p2, c2, rfl, hin2, hb2, -⟩))
  have hB2 : Below B w w2 := hB1.trans (hb2.mono (Nat.le_trans hBw hb1.size))
  have hp2 := (hp.kept hb1).kept hb2
  obtain ⟨b2, o2, rfl, _, hc2⟩ := hin2.at' (by decide)
  have hc0 := hc2 0 (by decide)
  have e0 : el (valsTo [64] (subL xs 16 8) ([64] : List Int).length) 0 = (F0 : Int) := HF.out
  rw [e0, Nat.add_zero] at hc0
  have hbel2 := bt hb1 hb2
  clear hc2 hin2 hb1 hb2 hw1 hp hB1 e0
  have y3 := hp2.cell' (i := 3) rfl
  have f3 := hp2.frozen 3
  go_upto_region 2 with (fail)
  have hp3' : Blk (w2.setCell ⟨g, 3, none⟩ (.int .i64 G0)) g 42 [.int .i64 k, .int .i64 gn, .int .i64 pt, .int .i64 G0, .slice none 0 0, .slice none 0 0, .slice none 0 0] := hp2.set 3 (.int .i64 G0)
  have hB3 : Below B w (w2.setCell ⟨g, 3, none⟩ (.int .i64 G0)) := (Turned.setCell w2 ⟨g, 3, none⟩ (.int .i64 G0)).below hB2 hB
  clear hc0 hp2 hB2 y3 f3 hbel2
  generalize w2.setCell ⟨g, 3, none⟩ (.int .i64 G0) = w3 at *
  go_upto_region 3 with (go_at_call 95; refine (boolsOf_any _ 8 _ m (subL xs 24 8) _ ((hb _ hB3).sub0 24 8 (by decide)) (by omega) hm).mono ?_; rintro e w4 ⟨p4, c4, rfl, ho4, hb4⟩; have hB4 : Below B w w4 := hB3.trans (hb4.mono (Nat.le_trans hBw hB3.size)); have hp4 := hp3'.kept hb4; have y4 := hp4.cell' (i := 4) rfl; have f4 := hp4.frozen 4)
  have hp5' : Blk (w4.setCell ⟨g, 4, none⟩ (.slice p4 m c4)) g 42 [.int .i64 k, .int .i64 gn, .int .i64 pt, .int .i64 G0, .slice p4 m c4, .slice none 0 0, .slice none 0 0] := hp4.set 4 (.slice p4 m c4)
  have ht5 := Turned.setCell w4 ⟨g, 4, none⟩ (.slice p4 m c4)
  have hB5 : Below B w (w4.setCell ⟨g, 4, none⟩ (.slice p4 m c4)) := ht5.below hB4 hB
  have hsz3 : w.heap.size ≤ w3.heap.size := hB3.size
  have ho5 := owns_turned (owns_mono ho4 hsz3) ht5 (owns_blk_ne (by decide) ho4 hp4)
  clear hp4 hp3' hB4 hB3 ho4 hb4 hs2 y4 f4 ht5
  generalize w4.setCell ⟨g, 4, none⟩ (.slice p4 m c4) = w5 at *
  go_upto_region 4 with (first
    | (go_at_call 83; refine (wearW_all m hm _).mono ?_; rintro e w6 ⟨g6, c6, rfl, hw6, hb6⟩; have hB6 : Below B w w6 := hB5.trans (hb6.mono (Nat.le_trans hBw hB5.size)))
    | (go_at_call 86; refine (take_al gb ob 256 c 32 (3 * m) xs _ m _ (List.replicate m 24) _ (hb _ hB6) (by decide) hw6 (widthOk_wear hm) (bytes_wear m) (at_wear m) (by decide) (by omega)).mono ?_; rintro e w7 ⟨p7, c7, rfl, hin7, hb7, -⟩))
  rw [List.length_replicate] at hin7
  have hB7 : Below B w w7 := hB6.trans (hb7.mono (Nat.le_trans hBw hB6.size))
  have hp7 := (hp5'.kept hb6).kept hb7
  have ho7 := owns_below (owns_below ho5 hb6) hb7
  clear hp5' hB5 hB6 ho5 hw6 hb6 hb7
  go_wp2_with (go_at_call 96; refine (signed_any _ m _ _ _ hin7 hm wear_lim).mono ?_; rintro e w8 ⟨p8, c8, rfl, ho8, hb8⟩; have hB8 : Below B w w8 := hB7.trans (hb8.mono (Nat.le_trans hBw hB7.size)); have hp8 := hp7.kept hb8; have hob8 := owns_below ho7 hb8; have y5 := hp8.cell' (i := 5) rfl; have f5 := hp8.frozen 5)
  go_end0
  have hsz7 : w.heap.size ≤ w7.heap.size := hB7.size
  have ht9 := Turned.setCell w8 ⟨g, 5, none⟩ (.slice p8 m c8)
  refine ⟨rfl, ⟨p4, m, c4, p8, m, c8, none, 0, 0⟩, ?_, ?_, ht9.below hB8 hB⟩
  · rw [HE.out]; exact hp8.set 5 (.slice p8 m c8)
  · rw [HE.out]
    exact ⟨owns_turned hob8 ht9 (owns_blk_ne (by decide) hob8 hp8), owns_turned (owns_mono ho8 hsz7) ht9 (owns_blk_ne (by decide) ho8 hp8), ⟨rfl, .inl ⟨rfl, rfl⟩⟩, by show m ≤ _; omega, by show m ≤ _; omega, Nat.zero_le _⟩
end Go.Proofs.Ytpikaagdiafieaa
