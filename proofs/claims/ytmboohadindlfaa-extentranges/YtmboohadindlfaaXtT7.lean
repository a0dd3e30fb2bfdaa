/-
  The law's runs.
-/
import Derived.Test.YtmboohadindlfaaXtT6
namespace Go.Proofs.Ytmboohadindlfaa
open Go.RowKit Go.Shelf
attribute [local go_sem] Oper.semAt_some
theorem seqE_nil (w : World) (f : Fn) (a b : Array Value) : (binOp .eql 63 (.func f a b) .nilFunc).run Try.prog w = .ok (.bool false) w := by
  have h : ∀ d : Nat, (Op.equalIn (d + 1) 63 (.func f a b) .nilFunc).run Try.prog w = .ok false w := fun d => by
    simp [Op.equalIn]
  simp only [binOp]
  simp [Op.equal, Op.maxDepth, h 9999]
set_option linter.unusedSimpArgs false in
set_option linter.unusedVariables false in
set_option maxRecDepth 100000 in
set_option maxHeartbeats 4000000 in
theorem lruns_in (nf : Nat) (hnf : 4 ≤ nf) (P0 : Option Addr) (N0 C0 : Nat) (L : List Ext) (f t : Int) (w : World) (h : InE w P0 N0 C0 L) (hn : N0 ≤ 100000) :
    CallsIn Fence.wide nf Try.prog 21 #[.slice P0 N0 C0, .int .i64 f, .int .i64 t] w fun e w' => ∃ p2 n2 c2, e = .returned (.slice p2 n2 c2) ∧ InE w' p2 n2 c2 (runsL f t (takenL L)) ∧ n2 ≤ N0 ∧ Below w.heap.size w w' := by
  obtain ⟨i0, hi, hz0, hz1, hz2⟩ := info_parts infoE
  have h1 : 1 ≤ nf := by omega
  have hrun := Runs_any P0 N0 C0 L f t w h hn
  refine callsIn_of_wp_marks Try.func21 rfl trivial ?_ rfl
  simp only [Try.ntmps21, List.size_toArray, List.length_cons, List.length_nil, Nat.reduceAdd, Nat.reduceSub, Array.replicate_succ, Array.replicate_zero, List.push_toArray, List.append_toArray, List.nil_append, List.cons_append]
  gi_wp2_with fail
  refine ⟨trivial, (callsIn_wide.2 hrun).mono ?_⟩
  rintro e9 w1 ⟨N, B1, p, c, rfl, hP, hNn, hwB, hpa, hbw1⟩
  clear hrun
  have hsw := hbw1.size
  have l1 := hP.bl.lt
  have l2 := hP.bf.lt
  have l3 := hP.bt.lt
  have HXL : Hid ((takenL L).length ≤ N0) := by show _ ≤ _; have := hP.inn.len; omega
  obtain ⟨xs, hxs⟩ : ∃ xs, takenL L = xs := ⟨_, rfl⟩
  have HXS : Hid (takenL L = xs) := hxs
  rw [hxs] at hP HXL
  clear hxs
  unfold partsF
  have hlow0 : ∀ a, p = some a → a.block < w1.heap.size := fun a ha => by have := hpa a ha; omega
  clear hpa hwB
  obtain ⟨B2, hB2⟩ : ∃ B2, B1 + 1 = B2 := ⟨_, rfl⟩
  obtain ⟨B3, hB3⟩ : ∃ B3, B1 + 2 = B3 := ⟨_, rfl⟩
  rw [hB2] at hP l2
  rw [hB3] at hP l3
  rw [hB2, hB3]
  clear hB2 hB3
  obtain ⟨pre0, hpre⟩ : ∃ pre0 : List Ext, pre0 = [] := ⟨_, rfl⟩
  have HP0 : Hid (pre0 = []) := hpre
  have hb0 : Below w1.heap.size w1 (w1.alloc (.cells #[.slice none 0 0] 22)) := below_alloc w1 _
  have b5 := Boxed.new w1 22 (.slice none 0 0)
  have hrow5 : (w1.alloc (.cells #[.slice none 0 0] 22)).ownsRow w1.heap.size 31 3 (.slice none 0 0) (pre0.length + ([] : List VE).length) (flatE (pre0 ++ vE [])) := by
    rw [hpre]; exact World.ownsRow_nil _ _ _ _
  clear hpre
  have hsz : w1.heap.size + 1 ≤ (w1.alloc (.cells #[.slice none 0 0] 22)).heap.size := by simp only [World.size_alloc]; omega
  have hP0 := hP.below hb0
  have HVL : Hid (pre0.length + (runsV f t xs).length ≤ 1000000) := by
    show _ ≤ _
    have := List.length_filterMap_le (fun e : Ext => if h : oneB (partE f t e) = true then some (⟨partE f t e, h⟩ : VE) else none) xs
    have e := hP.inn.len
    rw [HP0.out]
    unfold runsV
    simp only [List.length_nil]
    omega
  have hnil := fun W => seqE_nil W (.func 53) #[] #[.pointer (some ⟨B1, 0, none⟩), .pointer (some ⟨B2, 0, none⟩), .pointer (some ⟨B3, 0, none⟩)]
  gi_wp2
  clear hnil
  generalize w1.alloc (.cells #[.slice none 0 0] 22) = V0 at *
  obtain ⟨BX, hBX⟩ : ∃ BX, BX = w1.heap.size := ⟨_, rfl⟩
  have hB01 : w.heap.size ≤ BX := by omega
  rw [← hBX] at b5 hsz l1 l2 l3 hb0 hrow5 hlow0 ⊢
  clear hBX
  obtain ⟨B0, hB0'⟩ : ∃ B0, B0 = BX := ⟨_, rfl⟩
  rw [← hB0'] at hrow5 hlow0 hB01
  have hB0 : B0 ≤ BX := by omega
  clear hB0'
  have hlow : 0 < N → ∀ a, p = some a → a.block < B0 := fun _ => hlow0
  have hst := parts_stops (nf - 1) (by omega) N B1 B2 B3 p c f t xs V0 hP0
  refine wpIn_rangeFunc_ownH rfl h1 (gf := 53) (lb := #[.pointer (some ⟨B1, 0, none⟩), .pointer (some ⟨B2, 0, none⟩), .pointer (some ⟨B3, 0, none⟩)]) rfl trivial (enters_of Try.func53 (by kernel_rfl) rfl)
    hst (fun h k => h.trans k) (fun W' l o o' hl _ _ _ => ⟨World.putObj_heap_other (by omega), World.putObj_heap_other (by omega), World.putObj_heap_other (by omega), by simp [World.putObj], fun h0 a e => World.putObj_heap_other (by have := hlow h0 a e; omega)⟩) (Below.refl _ _) (fun _ => rfl)
    (fun pre W' => (∃ v, Boxed W' BX 22 v ∧ W'.ownsRow B0 31 3 v (pre0.length + pre.length) (flatE (pre0 ++ vE pre)) ∧ True) ∧ Boxed W' B1 22 (.slice p N c) ∧ Boxed W' B2 3 (.int .i64 f) ∧ Boxed W' B3 3 (.int .i64 t) ∧ Below B0 V0 W' ∧ V0.heap.size ≤ W'.heap.size)
    (fun _ _ _ => False)
    (OwnFrom.and (Own.from (holdsRow_own B0 BX 22 31 3 (fun pre : List VE => pre0.length + pre.length) (fun pre => flatE (pre0 ++ vE pre)) (fun _ _ => True)) _) (OwnFrom.and (Own.from (boxed_own B1 22 (fun _ : List VE => Value.slice p N c)) _) (OwnFrom.and (Own.from (boxed_own B2 3 (fun _ : List VE => Value.int .i64 f)) _) (OwnFrom.and (Own.from (boxed_own B3 3 (fun _ : List VE => Value.int .i64 t)) _) (OwnFrom.and (ownFrom_below (by omega) (by omega)) (fun _ _ _ _ hs hg _ => Nat.le_trans hs hg.size))))))
    (fun _ _ _ _ _ hs _ _ => hs)
    ⟨⟨_, b5, hrow5, trivial⟩, hP0.bl, hP0.bf, hP0.bt, Below.refl _ _, Nat.le_refl _⟩
    (fun x a' W => ∃ Bx, V0.heap.size ≤ Bx ∧ Blk W Bx 31 x.1.cells ∧ a' = { tmps := #[.slice P0 N0 C0, .int .i64 f, .int .i64 t, undef, undef, undef, .slice none 0 0, (.func (.func 53) #[] #[.pointer (some ⟨B1, 0, none⟩), .pointer (some ⟨B2, 0, none⟩), .pointer (some ⟨B3, 0, none⟩)]), .pointer (some ⟨BX, 0, none⟩), .pointer (some ⟨Bx, 0, none⟩), .slice P0 N0 C0, .int .i64 f, .int .i64 t, (.func (.func 53) #[] #[.pointer (some ⟨B1, 0, none⟩), .pointer (some ⟨B2, 0, none⟩), .pointer (some ⟨B3, 0, none⟩)]), (.func (.func 53) #[] #[.pointer (some ⟨B1, 0, none⟩), .pointer (some ⟨B2, 0, none⟩), .pointer (some ⟨B3, 0, none⟩)]), .bool false, (.func (.func 53) #[] #[.pointer (some ⟨B1, 0, none⟩), .pointer (some ⟨B2, 0, none⟩), .pointer (some ⟨B3, 0, none⟩)]), (.agg #[.int .i64 x.1.lo, .int .i64 x.1.ln, .int .i64 x.1.ph]), undef, undef, undef, undef, undef], defers := [] })
    (fun x a' s X Y row ⟨Bx, h1, h2, h3⟩ hg hr => ⟨Bx, h1, (blk_own (β := Unit) Bx 31 (fun _ => x.1.cells)).from V0.heap.size () X Y row h2 hg hr, h3⟩)
    ?assign ?body ?done ?stop
  case assign =>
    rintro l pre x W K ⟨⟨v, q1, q2, q3⟩, q4, q5, q6, q7, q8⟩ hK
    obtain ⟨⟨xa, xm, xp⟩, hcx⟩ := x
    dsimp only [encV, Ext.val]
    have hb9 := below_alloc W (.cells #[.int .i64 xa, .int .i64 xm, .int .i64 xp] 31)
    gi_wp2
    exact hK _ _ ((KeepsOthers.alloc _ _).from _) (KpE.of_below hb9 (Boxed.lt q4) (Boxed.lt q5) (Boxed.lt q6) (fun h0 a e => by have := hlow h0 a e; omega)) ⟨⟨v, q1.alloc _, q2.alloc _, q3⟩, q4.alloc _, q5.alloc _, q6.alloc _, q7.trans (hb9.mono (by omega)), by rw [World.size_alloc]; omega⟩ ⟨W.heap.size, q8, Blk.new' _ _ _, rfl⟩
  case stop =>
    rintro D c pre W' _ _ h _
    exact h.elim
  case body =>
    rintro l pre x a' W' hl2 ⟨r, hr⟩ ⟨⟨v, h5, hrow, _⟩, q4, q5, q6, hB, hs5⟩ ⟨Bx, hx1, hx2, rfl⟩ hlen
    obtain ⟨k, hkk⟩ : ∃ k, pre0.length + pre.length = k := ⟨_, rfl⟩
    have HK : Hid (pre0.length + pre.length = k) := hkk
    have hk6 : k ≤ 1000000 := by have := HVL.out; omega
    rw [hkk] at hrow
    clear hkk hlen
    obtain ⟨pv, cv, rfl⟩ := owns_slice hrow
    have g5 := h5.cell
    have f5 := h5.frozen
    have l5 := h5.lt
    have x0 := hx2.cell' (i := 0) rfl
    have x1 := hx2.cell' (i := 1) rfl
    have x2 := hx2.cell' (i := 2) rfl
    have hfl : flatE (pre0 ++ vE pre) ++ [.int .i64 x.1.lo, .int .i64 x.1.ln, .int .i64 x.1.ph] = flatE (pre0 ++ vE (pre ++ [x])) := by rw [flatE_snoc, vE_snoc, List.append_assoc]
    gi_wp2_with (gi_at_builtin; refine wpListIn_append_own _ rfl (.tmp 18) (.tmp 20) 22 rfl B0 31 i0 (.agg #[.int .i64 0, .int .i64 0, .int .i64 0]) 3 24 Try.underlying22 hi hz0 hz1 hz2 rfl (by decide) (.slice pv k cv) k (flatE (pre0 ++ vE pre)) rfl (hrow.alloc _) ⟨W'.heap.size, 0, none⟩ 1 1 [.int .i64 x.1.lo, .int .i64 x.1.ln, .int .i64 x.1.ph] rfl rfl (new_three W' _ _ _) (by simp [Value.oneCell']) (by unfold maxLen; omega) (by omega) (by rw [World.size_alloc]; omega) ?_; intro v1 w1 hown1 hgrow1 _; obtain ⟨g', cap', rfl⟩ := ownsRow_succ hown1; obtain ⟨hv1, hv2, hr2, hk2, hb2⟩ := h5.appended (by decide) hrow (by omega) (by omega) hown1 hgrow1; have hc1 := hv1.cell; have hf1 := hv1.frozen)
    rw [hfl] at hr2
    have y4 : Boxed (w1.setCell ⟨BX, 0, none⟩ (.slice (some ⟨g', 0, none⟩) (k + 1) cap')) B1 22 (.slice p N c) := Boxed.other ((q4.alloc _).kept hgrow1 (q4.not_row (by decide) hrow)) (by omega) _
    have y5 : Boxed (w1.setCell ⟨BX, 0, none⟩ (.slice (some ⟨g', 0, none⟩) (k + 1) cap')) B2 3 (.int .i64 f) := Boxed.other ((q5.alloc _).kept hgrow1 (q5.not_row (by decide) hrow)) (by omega) _
    have y6 : Boxed (w1.setCell ⟨BX, 0, none⟩ (.slice (some ⟨g', 0, none⟩) (k + 1) cap')) B3 3 (.int .i64 t) := Boxed.other ((q6.alloc _).kept hgrow1 (q6.not_row (by decide) hrow)) (by omega) _
    have hsz9 := hb2.size
    refine ⟨hk2.from _, ⟨y4.trans q4.symm, y5.trans q5.symm, y6.trans q6.symm, hsz9, fun h0 a e => hb2.block _ (hlow h0 a e)⟩, ⟨_, hv2, by rw [List.length_append, ← Nat.add_assoc, HK.out]; exact hr2, trivial⟩, y4, y5, y6, hB.trans hb2, by omega⟩
  case done =>
    rintro D ys W' hD rfl ⟨⟨v, h5, hrow, _⟩, q4, q5, q6, hB, hs5⟩ hK
    rw [show vE (runsV f t xs) = runsL f t xs from runsV_val hP0.one] at hrow
    have HVV : Hid (pre0.length + (runsV f t xs).length = (pre0 ++ runsL f t xs).length) := by show _ = _; rw [List.length_append, ← runsV_val hP0.one, List.length_map]
    rw [HVV.out] at hrow
    obtain ⟨T, hT⟩ : ∃ T, (pre0 ++ runsL f t xs).length = T := ⟨_, rfl⟩
    rw [hT] at hrow
    have HT : Hid ((pre0 ++ runsL f t xs).length = T) := hT
    clear hT
    obtain ⟨pv, cv, rfl⟩ := owns_slice hrow
    have g5 := h5.cell
    gi_wp2
    refine ⟨by simp, .inl ⟨_, _, rfl, run_takeDeferred hK, ?_⟩⟩
    have hbD : Below B0 W' (W'.putObj D (.deferred none)) := belowK_b (w := V0) (by omega) W' D _ _ (by omega) hK rfl rfl
    have hrow' := ownsRow_putObj hrow (.deferred none) hK rfl
    have hT1 : T ≤ N0 := by
      have e1 := HT.out
      rw [HP0.out, List.nil_append] at e1
      have e2 := runsL_len f t xs
      have e3 := HXL.out
      omega
    obtain ⟨p', c', hv', hin'⟩ := in_of_ownsE hrow' (by omega)
    cases hv'
    exact ⟨_, results_tmp Try.results21 _ _ _, _, _, _, rfl, by rw [HP0.out, List.nil_append] at hin'; rw [HXS.out]; exact hin', hT1, hbw1.trans (((hb0.mono hB0).trans (hB.trans hbD)).mono hB01)⟩
theorem lruns_any (p : Option Addr) (n c : Nat) (l : List Ext) (f t : Int) (w : World) (h : InE w p n c l) (hn : n ≤ 100000) :
    Calls Try.prog 21 #[.slice p n c, .int .i64 f, .int .i64 t] w fun e w' => ∃ p2 n2 c2, e = .returned (.slice p2 n2 c2) ∧ InE w' p2 n2 c2 (runsL f t (takenL l)) ∧ n2 ≤ n ∧ Below w.heap.size w w' :=
  (callsIn_wide (n := 4)).1 (lruns_in 4 (Nat.le_refl _) p n c l f t w h hn)
end Go.Proofs.Ytmboohadindlfaa
