/-
  slices.AppendSeq and slices.Collect of what parts gives.
-/
import Derived.Test.YtmboohadindlfaaXtR
namespace Go.Proofs.Ytmboohadindlfaa
open Go.RowKit Go.Shelf
attribute [local go_sem] Oper.semAt_some
def vE (l : List VE) : List Ext := l.map (·.1)
theorem vE_snoc (l : List VE) (x : VE) : vE (l ++ [x]) = vE l ++ [x.1] := by simp [vE]
theorem blk_own {β : Type} (B : Nat) (t : TypeId) (f : β → List Value) : Own (fun s W => Blk W B t (f s)) := fun s X Y row hs hg hrow =>
  (hg.block B hs.lt (fun e' => by obtain ⟨o, ho, hc⟩ := hrow B e'.symm; rw [show X.heap[B]? = _ from hs] at ho; cases ho; cases hc)).trans hs
set_option linter.unusedSimpArgs false in
set_option linter.unusedVariables false in
set_option maxRecDepth 100000 in
set_option maxHeartbeats 4000000 in
theorem appendSeq_in (nf : Nat) (hnf : 4 ≤ nf) (B0 N B1 B2 B3 : Nat) (p : Option Addr) (c : Nat) (f t : Int) (xs : List Ext) (v0 : Value) (pre0 : List Ext) (w : World) (hP : PartsIn w N B1 B2 B3 p c f t xs) (hB0 : B0 ≤ w.heap.size)
    (hrow0 : w.ownsRow B0 31 3 v0 pre0.length (flatE pre0)) (hlow : 0 < N → ∀ a, p = some a → a.block < B0) (hkl : pre0.length + N ≤ 1000000) :
    CallsIn Fence.wide nf Try.prog 45 #[v0, (.func (.func 53) #[] #[.pointer (some ⟨B1, 0, none⟩), .pointer (some ⟨B2, 0, none⟩), .pointer (some ⟨B3, 0, none⟩)])] w fun e w' => ∃ v, e = .returned v ∧ w'.ownsRow B0 31 3 v (pre0 ++ runsL f t xs).length (flatE (pre0 ++ runsL f t xs)) ∧ Below B0 w w' := by
  obtain ⟨i0, hi, hz0, hz1, hz2⟩ := info_parts infoE
  have h1 : 1 ≤ nf := by omega
  obtain ⟨p0, c0, rfl⟩ := owns_slice hrow0
  have hb0 : Below w.heap.size w (w.alloc (.cells #[.slice p0 pre0.length c0] 22)) := below_alloc w _
  have b5 := Boxed.new w 22 (.slice p0 pre0.length c0)
  have hrow5 : (w.alloc (.cells #[.slice p0 pre0.length c0] 22)).ownsRow B0 31 3 (.slice p0 pre0.length c0) (pre0.length + ([] : List VE).length) (flatE (pre0 ++ vE [])) := by
    rw [show vE [] = [] from rfl, List.append_nil]; exact owns_below hrow0 hb0
  have hsz : w.heap.size + 1 ≤ (w.alloc (.cells #[.slice p0 pre0.length c0] 22)).heap.size := by simp only [World.size_alloc]; omega
  have hP0 := hP.below hb0
  have l1 := hP.bl.lt
  have l2 := hP.bf.lt
  have l3 := hP.bt.lt
  have HVL : Hid (pre0.length + (runsV f t xs).length ≤ 1000000) := by
    show _ ≤ _
    have := List.length_filterMap_le (fun e : Ext => if h : oneB (partE f t e) = true then some (⟨partE f t e, h⟩ : VE) else none) xs
    have e := hP.inn.len
    unfold runsV
    omega
  refine callsIn_of_wp_marks Try.func45 rfl trivial ?_ rfl
  simp only [Try.ntmps45, List.size_toArray, List.length_cons, List.length_nil, Nat.reduceAdd, Nat.reduceSub, Array.replicate_succ, Array.replicate_zero, List.push_toArray, List.append_toArray, List.nil_append, List.cons_append]
  gi_wp2
  generalize w.alloc (.cells #[.slice p0 pre0.length c0] 22) = V0 at *
  obtain ⟨BX, hBX⟩ : ∃ BX, BX = w.heap.size := ⟨_, rfl⟩
  rw [← hBX] at b5 hsz l1 l2 l3 hB0 hb0 ⊢
  clear hBX hrow0
  have hst := parts_stops (nf - 1) (by omega) N B1 B2 B3 p c f t xs V0 hP0
  refine wpIn_rangeFunc_ownH rfl h1 (gf := 53) (lb := #[.pointer (some ⟨B1, 0, none⟩), .pointer (some ⟨B2, 0, none⟩), .pointer (some ⟨B3, 0, none⟩)]) rfl trivial (enters_of Try.func53 (by kernel_rfl) rfl)
    hst (fun h k => h.trans k) (fun W' l o o' hl _ _ _ => ⟨World.putObj_heap_other (by omega), World.putObj_heap_other (by omega), World.putObj_heap_other (by omega), by simp [World.putObj], fun h0 a e => World.putObj_heap_other (by have := hlow h0 a e; omega)⟩) (Below.refl _ _) (fun _ => rfl)
    (fun pre W' => (∃ v, Boxed W' BX 22 v ∧ W'.ownsRow B0 31 3 v (pre0.length + pre.length) (flatE (pre0 ++ vE pre)) ∧ True) ∧ Boxed W' B1 22 (.slice p N c) ∧ Boxed W' B2 3 (.int .i64 f) ∧ Boxed W' B3 3 (.int .i64 t) ∧ Below B0 V0 W' ∧ V0.heap.size ≤ W'.heap.size)
    (fun _ _ _ => False)
    (OwnFrom.and (Own.from (holdsRow_own B0 BX 22 31 3 (fun pre : List VE => pre0.length + pre.length) (fun pre => flatE (pre0 ++ vE pre)) (fun _ _ => True)) _) (OwnFrom.and (Own.from (boxed_own B1 22 (fun _ : List VE => Value.slice p N c)) _) (OwnFrom.and (Own.from (boxed_own B2 3 (fun _ : List VE => Value.int .i64 f)) _) (OwnFrom.and (Own.from (boxed_own B3 3 (fun _ : List VE => Value.int .i64 t)) _) (OwnFrom.and (ownFrom_below (by omega) (by omega)) (fun _ _ _ _ hs hg _ => Nat.le_trans hs hg.size))))))
    (fun _ _ _ _ _ hs _ _ => hs)
    ⟨⟨_, b5, hrow5, trivial⟩, hP0.bl, hP0.bf, hP0.bt, Below.refl _ _, Nat.le_refl _⟩
    (fun x a' W => ∃ Bx, V0.heap.size ≤ Bx ∧ Blk W Bx 31 x.1.cells ∧ a' = { tmps := #[.slice p0 pre0.length c0, (.func (.func 53) #[] #[.pointer (some ⟨B1, 0, none⟩), .pointer (some ⟨B2, 0, none⟩), .pointer (some ⟨B3, 0, none⟩)]), .pointer (some ⟨BX, 0, none⟩), undef, .slice none 0 0, .pointer (some ⟨Bx, 0, none⟩), (.func (.func 53) #[] #[.pointer (some ⟨B1, 0, none⟩), .pointer (some ⟨B2, 0, none⟩), .pointer (some ⟨B3, 0, none⟩)]), (.agg #[.int .i64 x.1.lo, .int .i64 x.1.ln, .int .i64 x.1.ph]), undef, undef, undef, undef, undef], defers := [] })
    (fun x a' s X Y row ⟨Bx, h1, h2, h3⟩ hg hr => ⟨Bx, h1, (blk_own (β := Unit) Bx 31 (fun _ => x.1.cells)).from V0.heap.size () X Y row h2 hg hr, h3⟩)
    ?assign ?body ?done ?stop
  case assign =>
    rintro l pre x W K ⟨⟨v, q1, q2, q3⟩, q4, q5, q6, q7, q8⟩ hK
    obtain ⟨⟨xa, xm, xp⟩, hcx⟩ := x
    dsimp only [encV, Ext.val]
    have hb9 := below_alloc W (.cells #[.int .i64 xa, .int .i64 xm, .int .i64 xp] 31)
    gi_wp2
    exact hK _ _ ((KeepsOthers.alloc _ _).from _) (KpE.of_below hb9 (Boxed.lt q4) (Boxed.lt q5) (Boxed.lt q6) (fun h0 a e => by have := hlow h0 a e; omega)) ⟨⟨v, q1.alloc _, q2.alloc _, q3⟩, q4.alloc _, q5.alloc _, q6.alloc _, q7.trans (hb9.mono (by omega)), by rw [World.size_alloc]; omega⟩ ⟨W.heap.size, q8, Blk.new' _ _ _, rfl⟩
  case stop =>
    rintro D c pre W' _ _ h _
    exact h.elim
  case body =>
    rintro l pre x a' W' hl2 ⟨r, hr⟩ ⟨⟨v, h5, hrow, _⟩, q4, q5, q6, hB, hs5⟩ ⟨Bx, hx1, hx2, rfl⟩ hlen
    obtain ⟨k, hkk⟩ : ∃ k, pre0.length + pre.length = k := ⟨_, rfl⟩
    have HK : Hid (pre0.length + pre.length = k) := hkk
    have hk6 : k ≤ 1000000 := by have := HVL.out; omega
    rw [hkk] at hrow
    clear hkk hlen
    obtain ⟨pv, cv, rfl⟩ := owns_slice hrow
    have g5 := h5.cell
    have f5 := h5.frozen
    have l5 := h5.lt
    have x0 := hx2.cell' (i := 0) rfl
    have x1 := hx2.cell' (i := 1) rfl
    have x2 := hx2.cell' (i := 2) rfl
    have hfl : flatE (pre0 ++ vE pre) ++ [.int .i64 x.1.lo, .int .i64 x.1.ln, .int .i64 x.1.ph] = flatE (pre0 ++ vE (pre ++ [x])) := by rw [flatE_snoc, vE_snoc, List.append_assoc]
    gi_wp2_with (gi_at_builtin; refine wpListIn_append_own _ rfl (.tmp 8) (.tmp 10) 22 rfl B0 31 i0 (.agg #[.int .i64 0, .int .i64 0, .int .i64 0]) 3 24 Try.underlying22 hi hz0 hz1 hz2 rfl (by decide) (.slice pv k cv) k (flatE (pre0 ++ vE pre)) rfl (hrow.alloc _) ⟨W'.heap.size, 0, none⟩ 1 1 [.int .i64 x.1.lo, .int .i64 x.1.ln, .int .i64 x.1.ph] rfl rfl (new_three W' _ _ _) (by simp [Value.oneCell']) (by unfold maxLen; omega) (by omega) (by rw [World.size_alloc]; omega) ?_; intro v1 w1 hown1 hgrow1 _; obtain ⟨g', cap', rfl⟩ := ownsRow_succ hown1; obtain ⟨hv1, hv2, hr2, hk2, hb2⟩ := h5.appended (by decide) hrow (by omega) (by omega) hown1 hgrow1; have hc1 := hv1.cell; have hf1 := hv1.frozen)
    rw [hfl] at hr2
    have y4 : Boxed (w1.setCell ⟨BX, 0, none⟩ (.slice (some ⟨g', 0, none⟩) (k + 1) cap')) B1 22 (.slice p N c) := Boxed.other ((q4.alloc _).kept hgrow1 (q4.not_row (by decide) hrow)) (by omega) _
    have y5 : Boxed (w1.setCell ⟨BX, 0, none⟩ (.slice (some ⟨g', 0, none⟩) (k + 1) cap')) B2 3 (.int .i64 f) := Boxed.other ((q5.alloc _).kept hgrow1 (q5.not_row (by decide) hrow)) (by omega) _
    have y6 : Boxed (w1.setCell ⟨BX, 0, none⟩ (.slice (some ⟨g', 0, none⟩) (k + 1) cap')) B3 3 (.int .i64 t) := Boxed.other ((q6.alloc _).kept hgrow1 (q6.not_row (by decide) hrow)) (by omega) _
    have hsz9 := hb2.size
    refine ⟨hk2.from _, ⟨y4.trans q4.symm, y5.trans q5.symm, y6.trans q6.symm, hsz9, fun h0 a e => hb2.block _ (hlow h0 a e)⟩, ⟨_, hv2, by rw [List.length_append, ← Nat.add_assoc, HK.out]; exact hr2, trivial⟩, y4, y5, y6, hB.trans hb2, by omega⟩
  case done =>
    rintro D ys W' hD rfl ⟨⟨v, h5, hrow, _⟩, q4, q5, q6, hB, hs5⟩ hK
    rw [show vE (runsV f t xs) = runsL f t xs from runsV_val hP0.one] at hrow
    have HVV : Hid (pre0.length + (runsV f t xs).length = (pre0 ++ runsL f t xs).length) := by show _ = _; rw [List.length_append, ← runsV_val hP0.one, List.length_map]
    rw [HVV.out] at hrow
    obtain ⟨T, hT⟩ : ∃ T, (pre0 ++ runsL f t xs).length = T := ⟨_, rfl⟩
    rw [hT] at hrow
    have HT : Hid ((pre0 ++ runsL f t xs).length = T) := hT
    clear hT
    obtain ⟨pv, cv, rfl⟩ := owns_slice hrow
    have g5 := h5.cell
    gi_wp2
    refine ⟨by simp, .inl ⟨_, _, rfl, run_takeDeferred hK, ?_⟩⟩
    have hbD : Below B0 W' (W'.putObj D (.deferred none)) := belowK_b (w := V0) (by omega) W' D _ _ (by omega) hK rfl rfl
    have hrow' := ownsRow_putObj hrow (.deferred none) hK rfl
    exact ⟨_, results_tmp Try.results45 _ _ _, _, rfl, by rw [HT.out]; exact hrow', (hb0.mono (by omega)).trans (hB.trans hbD)⟩
theorem appendSeq_any (B0 N B1 B2 B3 : Nat) (p : Option Addr) (c : Nat) (f t : Int) (xs : List Ext) (v0 : Value) (pre0 : List Ext) (w : World) (hP : PartsIn w N B1 B2 B3 p c f t xs) (hB0 : B0 ≤ w.heap.size)
    (hrow0 : w.ownsRow B0 31 3 v0 pre0.length (flatE pre0)) (hlow : 0 < N → ∀ a, p = some a → a.block < B0) (hkl : pre0.length + N ≤ 1000000) :
    Calls Try.prog 45 #[v0, (.func (.func 53) #[] #[.pointer (some ⟨B1, 0, none⟩), .pointer (some ⟨B2, 0, none⟩), .pointer (some ⟨B3, 0, none⟩)])] w fun e w' => ∃ v, e = .returned v ∧ w'.ownsRow B0 31 3 v (pre0 ++ runsL f t xs).length (flatE (pre0 ++ runsL f t xs)) ∧ Below B0 w w' :=
  (callsIn_wide (n := 4)).1 (appendSeq_in 4 (Nat.le_refl _) B0 N B1 B2 B3 p c f t xs v0 pre0 w hP hB0 hrow0 hlow hkl)
theorem collect_any (B0 N B1 B2 B3 : Nat) (p : Option Addr) (c : Nat) (f t : Int) (xs : List Ext) (w : World) (hP : PartsIn w N B1 B2 B3 p c f t xs) (hB0 : B0 ≤ w.heap.size)
    (hlow : 0 < N → ∀ a, p = some a → a.block < B0) (hkl : N ≤ 1000000) :
    Calls Try.prog 47 #[(.func (.func 53) #[] #[.pointer (some ⟨B1, 0, none⟩), .pointer (some ⟨B2, 0, none⟩), .pointer (some ⟨B3, 0, none⟩)])] w fun e w' => ∃ v, e = .returned v ∧ w'.ownsRow B0 31 3 v (runsL f t xs).length (flatE (runsL f t xs)) ∧ Below B0 w w' := by
  have h := appendSeq_any B0 N B1 B2 B3 p c f t xs (.slice none 0 0) [] w hP hB0 (World.ownsRow_nil _ _ _ _) hlow (by simpa using hkl)
  rw [List.nil_append] at h
  go_enter Try.func47, Try.ntmps47
  go_wp2_with (go_at_call 45; refine h.mono ?_; rintro e w1 ⟨v, rfl, ho, hb⟩)
  go_ret
  exact ⟨v, rfl, ho, hb⟩
end Go.Proofs.Ytmboohadindlfaa
