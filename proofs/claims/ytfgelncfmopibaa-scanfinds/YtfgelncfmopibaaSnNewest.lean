/-
  scan.Newest: where the newest copy of each page stands.
-/
import Derived.Test.YtfgelncfmopibaaSnCopies
namespace Go.Proofs.Ytfgelncfmopibaa
open Go.RowKit Go.Shelf
attribute [local go_sem] Oper.semAt_some
def placesOf (l : List Fd) : List Pl := l.map fun f => ⟨f.ph, f.pg⟩
theorem copies_any (P : Int) (a : Option Addr) (len cap : Nat) (w : World) :
    Calls Try.prog 37 #[.int .i64 P, .slice a len cap] w fun e w' => ∃ B1 B2, e = .returned (.func (.func 69) #[] #[.pointer (some ⟨B1, 0, none⟩), .pointer (some ⟨B2, 0, none⟩)]) ∧ w.heap.size ≤ B1 ∧ w.heap.size ≤ B2 ∧ Blk w' B1 27 [.slice a len cap] ∧ Blk w' B2 3 [.int .i64 P] ∧ Below w.heap.size w w' := by
  refine (copies_call P a len cap w).mono ?_
  rintro e w' ⟨rfl, rfl⟩
  have b1 := Blk.new' (w.alloc (.cells #[.int .i64 P] 3)) 27 #[.slice a len cap]
  rw [World.size_alloc] at b1
  exact ⟨_, _, rfl, by omega, by omega, b1, (Blk.new' w 3 #[.int .i64 P]).alloc _, bt (below_alloc _ _) (below_alloc _ _)⟩
theorem made_placesZ (n : Nat) : (madeCells (Value.agg #[.int .i64 0, .int .i64 0]).cells (n * 2)).toList = flatZ (List.replicate n ⟨0, 0⟩) := by
  apply List.ext_getElem?
  intro j
  rcases Nat.lt_or_ge j (n * 2) with hj | hj
  · rw [madeCells, Array.toList_map, Array.toList_range, List.getElem?_map, List.getElem?_range hj]
    obtain ⟨h0, h1⟩ := flatZ_at (l := List.replicate n ⟨0, 0⟩) (k := j / 2) (by rw [List.length_replicate]; omega)
    have hq : eZ (List.replicate n ⟨0, 0⟩) (j / 2) = ⟨0, 0⟩ := by simp [eZ, show j / 2 < n by omega]
    rw [hq] at h0 h1
    rcases Nat.mod_two_eq_zero_or_one j with e | e
    · have ej : j = j / 2 * 2 := by omega
      rw [ej, h0]
      simp [Value.cells]
    · have ej : j = j / 2 * 2 + 1 := by omega
      rw [ej, h1]
      simp [Value.cells, Nat.add_mod]
  · rw [List.getElem?_eq_none (by rw [Array.length_toList, size_madeCells]; exact hj), List.getElem?_eq_none (by rw [flatZ_length, List.length_replicate]; exact hj)]
theorem make_places (n : Nat) (hn : n ≤ 1000000) (W : World) : (Instr.makeSlice 37 (.int .i64 (n : Int)) (.int .i64 (n : Int))).run Try.prog W = .ok (.slice (some ⟨W.heap.size, 0, none⟩) n n) (W.alloc (.cells (flatZ (List.replicate n ⟨0, 0⟩)).toArray 29)) := by
  obtain ⟨i0, hi, hz0, hz1, hz2⟩ := info_parts infoZ
  have := run_make (P := Try.prog) W 37 29 i0 (.agg #[.int .i64 0, .int .i64 0]) Try.underlying37 hi hz0 .i64 .i64 (n : Int) (n : Int) (by omega) (by omega) (by rw [hz2]; omega) (by omega)
  rw [this, hz1]
  have e : madeCells (Value.agg #[.int .i64 0, .int .i64 0]).cells ((n : Int).toNat * 2) = (flatZ (List.replicate n ⟨0, 0⟩)).toArray := by
    apply Array.toList_inj.1
    rw [Int.toNat_natCast, made_placesZ]
  rw [e]
  simp
/-- The places so far. -/
def plTo (T : List Fd) (M k : Nat) : List Pl := placesOf (T.take k) ++ List.replicate (M - k) ⟨0, 0⟩
theorem plTo_zero (T : List Fd) (M : Nat) : plTo T M 0 = List.replicate M ⟨0, 0⟩ := by simp [plTo, placesOf]
theorem plTo_all {T : List Fd} {M : Nat} (h : T.length = M) : plTo T M M = placesOf T := by simp [plTo, ← h]
theorem plTo_length {T : List Fd} {M k : Nat} (h : T.length = M) (hk : k ≤ M) : (plTo T M k).length = M := by simp [plTo, placesOf]; omega
theorem plTo_succ {T : List Fd} {M k : Nat} (h : T.length = M) (hk : k < M) : (plTo T M k).set k ⟨(eF T k).ph, (eF T k).pg⟩ = plTo T M (k + 1) := by
  unfold plTo
  rw [takeF_succ T k (by omega), List.set_append_right _ _ (by simp [placesOf]; omega)]
  have e : (placesOf (T.take k)).length = k := by simp [placesOf]; omega
  rw [e, Nat.sub_self, show M - k = (M - (k + 1)) + 1 by omega, List.replicate_succ, List.set_cons_zero]
  simp [placesOf]
theorem blk_own {β : Type} (B : Nat) (t : TypeId) (f : β → List Value) : Own (fun s W => Blk W B t (f s)) := fun s X Y row hs hg hrow =>
  (hg.block B hs.lt (fun e' => by obtain ⟨o, ho, hc⟩ := hrow B e'.symm; rw [show X.heap[B]? = _ from hs] at ho; cases ho; cases hc)).trans hs
theorem newest_no (P Lg : Int) (p : Option Addr) (n c : Nat) (w : World) (hok : okSz P Lg 1 = false) :
    Calls Try.prog 15 #[.int .i64 P, .int .i64 Lg, .slice p n c] w fun e w' => e = .returned (.slice none 0 0) ∧ Below w.heap.size w w' := by
  have hnew := fun w => new_no P Lg 1 w hok
  go_enter Try.func15, Try.ntmps15
  go_wp2_with (go_at_call 35; refine (hnew _).mono ?_; rintro e w1 ⟨rfl, hb1⟩)
  go_ret
  exact ⟨rfl, bt hb1 (below_alloc _ _)⟩
set_option linter.unusedSimpArgs false in
set_option maxRecDepth 100000 in
set_option maxHeartbeats 8000000 in
theorem newest_in (nf : Nat) (hnf : 5 ≤ nf) (P : Int) (L M : Nat) (p : Option Addr) (n c : Nat) (xs : List Fd) (w : World) (hok : okSz P (L : Int) 1 = true) (hm : (L : Int) * P = (M : Int)) (hx : InF w p n c xs) :
    CallsIn Fence.wide nf Try.prog 15 #[.int .i64 P, .int .i64 (L : Int), .slice p n c] w fun e w' => ∃ g, e = .returned (.slice (some ⟨g, 0, none⟩) M M) ∧ w.heap.size ≤ g ∧ Blk w' g 29 (flatZ (placesOf (newestL P M xs))) ∧ Below w.heap.size w w' := by
  have h1 : 1 ≤ nf := by omega
  have hnew := fun w => new_ok P L 1 M w hok hm
  dsimp only [newT, tabA] at hnew
  obtain ⟨r1, r2, r3⟩ := okSz_iff.1 hok
  have hM := prod_bd r2 r1
  rw [hm] at hM
  have hM1 : 1 ≤ M := by omega
  have hM2 : M ≤ 8192 := by omega
  have hw1 : IntKind.i64.wrap ((L : Int) * P) = (M : Int) := by rw [hm]; exact wrapN M (by omega)
  have hw2 : wrap64 ((L : Int) * P) = (M : Int) := (IntWalk.i64_left _).symm.trans hw1
  have HL : Hid (xs.length = n) := hx.len
  clear hM hm hok r1 r2 r3
  refine callsIn_of_wp_marks Try.func15 rfl trivial ?_ rfl
  simp only [Try.ntmps15, List.size_toArray, List.length_cons, List.length_nil, Nat.reduceAdd, Nat.reduceSub, Array.replicate_succ, Array.replicate_zero, List.push_toArray, List.append_toArray, List.nil_append, List.cons_append]
  gi_wp2_with (first
    | (refine ⟨trivial, ?_⟩; gi_at_call 35; refine (callsIn_wide.2 (hnew _)).mono ?_; rintro e w1 ⟨V, rfl, -, -, -, -, hb1⟩; have ba := below_alloc w1 (.cells #[.int .i64 P, .int .i64 (L : Int), .int .i64 1, .slice V.pd V.nd V.cd, .slice V.ph V.nh V.ch, .int .i64 (-1), .int .i64 0, .int .i64 0, .slice V.pl V.nl V.cl] 56); have bb := Blk.new' (w1.alloc (.cells #[.int .i64 P, .int .i64 (L : Int), .int .i64 1, .slice V.pd V.nd V.cd, .slice V.ph V.nh V.ch, .int .i64 (-1), .int .i64 0, .int .i64 0, .slice V.pl V.nl V.cl] 56)) 33 #[.int .i64 (-1), .int .i64 0, .int .i64 0, .int .i64 0, .int .i64 0, .int .i64 0]; rw [World.size_alloc] at bb; have bc := bt ba (below_alloc _ (.cells #[.int .i64 (-1), .int .i64 0, .int .i64 0, .int .i64 0, .int .i64 0, .int .i64 0] 33)))
    | (refine ⟨trivial, ?_⟩; gi_at_call 36; refine (callsIn_wide.2 (repeatF_any noneF (w1.heap.size + 1) 1 M hM1 (by omega) _ bb)).mono ?_; rintro e w2 ⟨rfl, hg2, hb2⟩)
    | (refine ⟨trivial, ?_⟩; gi_at_call 37; refine (callsIn_wide.2 (copies_any _ _ _ _ _)).mono ?_; rintro e w4 ⟨B1, B2, rfl, hB1, hB2, hq1, hq2, hb4⟩))
  have hs1 := hb1.size
  have hs2 : w1.heap.size + 2 < w2.heap.size := by have := hg2.lt; simpa only [World.size_alloc] using this
  have hB2' : Below w.heap.size w w2 := bt (bt hb1 bc) hb2
  have hbN := (Blk.new' w2 27 #[.slice (some ⟨w1.heap.size + 1 + 1, 0, none⟩) M M]).kept hb4
  have hgN : Blk w4 (w1.heap.size + 1 + 1) 33 (flatF (newF M [])) := ((by simpa only [World.size_alloc] using hg2 : Blk w2 (w1.heap.size + 1 + 1) 33 (flatF (List.replicate M noneF))).alloc _).kept hb4
  have hB4 : Below w.heap.size w w4 := bt (bt hB2' (below_alloc _ _)) hb4
  rw [World.size_alloc] at hB1 hB2
  have hx4 := hx.below hB4
  obtain ⟨Bn, HBn⟩ : ∃ Bn, Bn = w2.heap.size := ⟨_, rfl⟩
  obtain ⟨g, Hg⟩ : ∃ g, g = w1.heap.size + 1 + 1 := ⟨_, rfl⟩
  obtain ⟨g7, Hg7⟩ : ∃ g, g = w1.heap.size := ⟨_, rfl⟩
  rw [← HBn, ← Hg] at hbN
  rw [← Hg] at hgN
  rw [← HBn] at hB1 hB2 hs2 ⊢
  rw [← Hg, ← Hg7]
  have hgw : w.heap.size ≤ g := by omega
  have hgb : g < Bn := by omega
  have hB1w := hq1.lt
  have hB2w := hq2.lt
  have hp0 : 0 < n → ∀ a, p = some a → a.block < w.heap.size := fun h0 a e => by
    obtain ⟨b, o, e', hlt, _⟩ := hx.at' h0
    rw [e] at e'; cases e'; exact hlt
  generalize hU : Value.agg #[.int .i64 P, .int .i64 (L : Int), .int .i64 1, .slice V.pd V.nd V.cd, .slice V.ph V.nh V.ch, .int .i64 (-1), .int .i64 0, .int .i64 0, .slice V.pl V.nl V.cl] = uA
  generalize hU2 : Value.slice (some ⟨g7 + 1, 0, none⟩) 1 1 = uS
  clear hU hU2 hs1 hs2 hB2' hb1 ba bb bc hb2 hg2 hb4 HBn Hg Hg7 hnew hw1 hw2
  refine wpIn_rangeFunc_ownH rfl h1 (gf := 69) (lb := #[.pointer (some ⟨B1, 0, none⟩), .pointer (some ⟨B2, 0, none⟩)]) rfl trivial (enters_of Try.func69 (by kernel_rfl) rfl)
    (copies_stops (nf - 1) (by omega) B1 B2 c n p P xs w4 hB1w hB2w (hq1.cell' (i := 0) rfl) (hq2.cell' (i := 0) rfl) hx4) (fun h k => h.trans k)
    (fun W' l o o' hl _ _ _ => ⟨⟨World.putObj_heap_other (by omega), World.putObj_heap_other (by omega), by simp [World.putObj]⟩, fun h0 a e => World.putObj_heap_other (by have := hp0 h0 a e; have := hB4.size; omega)⟩) (Below.refl _ _) (fun _ => rfl)
    (fun pre W' => Blk W' Bn 27 [.slice (some ⟨g, 0, none⟩) M M] ∧ Blk W' g 33 (flatF (newF M (pre.map (·.1)))) ∧ Below w.heap.size w W' ∧ w4.heap.size ≤ W'.heap.size)
    (fun _ _ _ => False)
    (OwnFrom.and (Own.from (blk_own Bn 27 (fun _ : List (CF P) => [.slice (some ⟨g, 0, none⟩) M M])) _) (OwnFrom.and (Own.from (blk_own g 33 (fun pre : List (CF P) => flatF (newF M (pre.map (·.1))))) _) (OwnFrom.and (ownFrom_below (Nat.le_refl _) hB4.size) (fun _ _ _ _ hs hg _ => Nat.le_trans hs hg.size))))
    (fun _ _ _ _ _ hs _ _ => hs)
    ⟨hbN, hgN, hB4, Nat.le_refl _⟩
    (fun x a' W => ∃ Bx, w4.heap.size ≤ Bx ∧ Blk W Bx 33 x.1.cells ∧ a' = { tmps := #[.int .i64 P, .int .i64 (L : Int), .slice p n c, undef, undef, undef, .slice none 0 0, .pointer (some ⟨g7, 0, none⟩), .int .i64 0, .pointer (some ⟨Bn, 0, none⟩), .pointer (some ⟨Bx, 0, none⟩), undef, undef, undef, .tuple #[uA, .int .i64 0], .int .i64 P, .int .i64 (L : Int), .tuple #[uA, .int .i64 0], uA, .int .i64 0, .int .i64 0, .bool false, .agg #[.int .i64 (-1), .int .i64 0], .agg #[.int .i64 (-1), .int .i64 0, .int .i64 0, .int .i64 0, .int .i64 0, .int .i64 0], uS, .int .i64 (L : Int), .int .i64 P, .int .i64 (M : Int), .slice (some ⟨g, 0, none⟩) M M, .int .i64 P, .slice p n c, .func (.func 69) #[] #[.pointer (some ⟨B1, 0, none⟩), .pointer (some ⟨B2, 0, none⟩)], x.1.val, undef, undef, undef, undef, undef, undef, undef, undef, undef, undef, undef, undef, undef, undef, undef, undef, undef, undef, undef, undef, undef, undef, undef, undef, undef, undef, undef, undef, undef, undef, undef, undef, undef, undef, undef, undef, undef, undef, undef], defers := [] })
    (fun x a' s X Y row ⟨Bx, h1, h2, h3⟩ hg hr => ⟨Bx, h1, (blk_own (β := Unit) Bx 33 (fun _ => x.1.cells)).from w4.heap.size () X Y row h2 hg hr, h3⟩)
    ?assign ?body ?done ?stop
  case assign =>
    rintro l pre x W K ⟨hn1, hn2, hn3, hn4⟩ hK
    obtain ⟨⟨xh, xg, xk, xp, xs', xt⟩, hcx⟩ := x
    dsimp only [encF, Fd.val]
    gi_wp2
    exact hK _ _ ((KeepsOthers.alloc _ _).from _) (KpF.below (below_alloc _ _) (by omega) (by omega) (fun h0 a e => by have := hp0 h0 a e; have := hn3.size; omega)) ⟨hn1.alloc _, hn2.alloc _, bt hn3 (below_alloc _ _), by rw [World.size_alloc]; omega⟩ ⟨W.heap.size, hn4, Blk.new' _ _ _, rfl⟩
  case stop =>
    rintro D c pre W' _ _ h _
    exact h.elim
  case done =>
    rintro D ys W hD rfl ⟨hn1, hn2, hn3, hn4⟩ hK
    rw [cfs_val] at hn2
    have HT : Hid ((newF M (xs.filter (cntB P))).length = M) := newF_length _ _
    have HN : Hid (newestL P M xs = newF M (xs.filter (cntB P))) := rfl
    generalize newF M (xs.filter (cntB P)) = T at *
    have y0 := hn1.cell' (i := 0) rfl
    have hmk := make_places M (by omega)
    have hMi : (M : Int) ≤ 8192 := by omega
    have hDl : D < W.heap.size := (Array.getElem?_eq_some_iff.1 hK).1
    have gp := Blk.new W 29 (flatZ (List.replicate M ⟨0, 0⟩))
    have hb5 := below_alloc W (.cells (flatZ (List.replicate M ⟨0, 0⟩)).toArray 29)
    rw [← plTo_zero T M] at hmk gp hb5
    have k1 := hn1.kept hb5
    have k2 := hn2.kept hb5
    have k3 := bt hn3 hb5
    have hK5 := (hb5.block _ hDl).trans hK
    have v0 := k1.cell' (i := 0) rfl
    have hgl := hn2.lt
    have hgw' : w.heap.size ≤ W.heap.size := hn3.size
    clear hb5
    gi_wp2
    obtain ⟨gP, HgP⟩ : ∃ gP, gP = W.heap.size := ⟨_, rfl⟩
    rw [← HgP] at gp hgl hDl hgw' ⊢
    clear HgP
    generalize W.alloc (.cells (flatZ (plTo T M 0)).toArray 29) = W5 at *
    clear hmk y0 hn1 hn2 hn3 hK hn4 k1 v0
    gi_loopw [60] (fun i wr => ∃ k : Nat, k ≤ M ∧ i = .int .i64 k ∧ Blk wr gP 29 (flatZ (plTo T M k)) ∧ Blk wr g 33 (flatF T) ∧ Below w.heap.size w wr ∧ wr.heap[D]? = some (.deferred (some []))) (fun i _ => M - (intOf i).toNat)
    case atStart => exact ⟨0, Nat.zero_le _, rfl, gp, k2, k3, hK5⟩
    case round =>
      obtain ⟨k, hk, rfl, gk, tk, bk, dk⟩ := hrel
      clear gp k2 k3 hK5
      by_cases hlt : k < M
      · have hki : (k : Int) < (M : Int) := by omega
        obtain ⟨f0, f1, f2, f3, f4, f5⟩ := flatF_at (l := T) (k := k) (by rw [HT.out]; exact hlt)
        obtain ⟨p0, p1⟩ := flatZ_at (l := plTo T M k) (k := k) (by rw [plTo_length HT.out hk]; exact hlt)
        have HP : Hid ((plTo T M k).set k ⟨(eF T k).ph, (eF T k).pg⟩ = plTo T M (k + 1)) := plTo_succ HT.out hlt
        generalize eF T k = R at *
        obtain ⟨rh, rg, rk, rp, rs', rt⟩ := R
        dsimp only at f0 f1 f2 f3 f4 f5
        have c0 := tk.cell' f0
        have c1 := tk.cell' f1
        have c2 := tk.cell' f2
        have c3 := tk.cell' f3
        have c4 := tk.cell' f4
        have c5 := tk.cell' f5
        have q0 := gk.cell' p0
        have q1 := gk.cell' p1
        have e0 := gk.frozen (k * 2)
        have e1 := gk.frozen (k * 2 + 1)
        have hgs := gk.lt
        gi_wp2
        have s3 := (gk.set (k * 2) (.int .i64 rh)).set (k * 2 + 1) (.int .i64 rg)
        rw [flatZ_set ⟨rh, rg⟩ (by rw [plTo_length HT.out hk]; exact hlt)] at s3
        have mt := (Turned.setCell wr ⟨gP, k * 2, none⟩ (.int .i64 rh)).trans (Turned.setCell _ ⟨gP, k * 2 + 1, none⟩ (.int .i64 rg))
        dsimp only at mt
        have hDs : D < wr.heap.size := (Array.getElem?_eq_some_iff.1 dk).1
        have hsz := mt.size
        go_roundw
        case rel => exact ⟨k + 1, by omega, by go_num, by rw [← HP.out]; exact s3.alloc _, (tk.turned mt (by omega)).alloc _, bt (mt.below bk hgw') (below_alloc _ _), (Below.heap_alloc _ _ D (by rw [hsz]; exact hDs)).trans ((mt.block D (by omega)).trans dk)⟩
        case measure => simp [intOf]; omega
      · obtain rfl : k = M := by omega
        rw [plTo_all HT.out] at gk
        gi_wp2
        have hD2 : w.heap.size ≤ D := Nat.le_trans hB4.size hD
        refine ⟨by simp, .inl ⟨_, _, rfl, run_takeDeferred dk, ?_⟩⟩
        have hbD : Below w.heap.size wr (wr.putObj D (.deferred none)) := belowK_b (w := w) (Nat.le_refl _) wr D _ _ hD2 dk rfl rfl
        exact ⟨_, results_tmp Try.results15 _ _ _, gP, rfl, hgw', by rw [HN.out]; exact (World.putObj_heap_other (by omega)).trans gk, bk.trans hbD⟩
  case body =>
    rintro l pre x a' W hl2 ⟨r, hr⟩ ⟨hn1, hn2, hn3, hn4⟩ ⟨Bx, hBx, hX, rfl⟩ hlen
    obtain ⟨⟨xh, xg, xk, xp, xs', xt⟩, hcx⟩ := x
    have hxp := (cnt_facts hcx).1
    dsimp only at hxp
    obtain ⟨q, rfl⟩ : ∃ q : Nat, xp = (q : Int) := ⟨xp.toNat, by omega⟩
    have HS : Hid (newF M ((pre ++ [(⟨⟨xh, xg, xk, (q : Int), xs', xt⟩, hcx⟩ : CF P)]).map (·.1)) = stepF (newF M (pre.map (·.1))) ⟨xh, xg, xk, (q : Int), xs', xt⟩) := by
      show _ = _
      rw [List.map_append, List.map_singleton, newF_snoc]
    have HT : Hid ((newF M (pre.map (·.1))).length = M) := newF_length _ _
    generalize newF M (pre.map (·.1)) = T at *
    dsimp only [Fd.val, Fd.cells] at hX ⊢
    by_cases hqM : q < M
    · have hqi : (q : Int) < (M : Int) := by omega
      obtain ⟨f0, f1, f2, f3, f4, f5⟩ := flatF_at (l := T) (k := q) (by rw [HT.out]; exact hqM)
      have HE : Hid (T.getD q noneF = eF T q) := by show _ = _; have := HT.out; simp [eF, List.getD_eq_getElem?_getD, List.getElem?_eq_getElem (show q < T.length by omega)]
      generalize eF T q = R at *
      obtain ⟨rh, rg, rk, rp, rs', rt⟩ := R
      dsimp only at f0 f1 f2 f3 f4 f5
      cases ha : aheadB ⟨xh, xg, xk, (q : Int), xs', xt⟩ ⟨rh, rg, rk, rp, rs', rt⟩ with
      | true =>
        have HS2 : Hid (stepF T ⟨xh, xg, xk, (q : Int), xs', xt⟩ = T.set q ⟨xh, xg, xk, (q : Int), xs', xt⟩) := by
          show _ = _; unfold stepF
          rw [if_pos ⟨by show (q : Int) < _; rw [HT.out]; exact hqi, by show aheadB _ (T.getD ((q : Int).toNat) noneF) = true; rw [Int.toNat_natCast, HE.out]; exact ha⟩]
          rw [show ((⟨xh, xg, xk, (q : Int), xs', xt⟩ : Fd).p).toNat = q from Int.toNat_natCast q]
        gi_wp2
        refine wpIn_region_held_round (S := fun X => Blk X Bx 33 [.int .i64 xh, .int .i64 xg, .int .i64 xk, .int .i64 (q : Int), .int .i64 xs', .int .i64 xt] ∧ Blk X Bn 27 [.slice (some ⟨g, 0, none⟩) M M] ∧ Blk X g 33 (flatF T) ∧ Below W.heap.size W X) (by kernel_rfl) (by kernel_rfl) ⟨hX.drew, hn1.drew, hn2.drew, (Below.refl _ _).drew⟩ (fun hHeld => ?_)
        refine wpAnyH_take (i := 0) (v := ?_) rfl (by kernel_rfl) (by kernel_rfl) (by kernel_rfl) (fun _ _ _ h => h) (Or.inl ⟨by rfl, ?_⟩) hHeld ?_
        rotate_left
        · intro w' hSw; try dsimp only at hSw
          go_simp; try (with_reducible rfl)
        try simp only [Act.put, List.getElem_toArray, List.getElem_cons_succ, List.getElem_cons_zero, List.setIfInBounds_toArray, List.set_cons_zero, List.set_cons_succ]
        refine wpAnyH_take (i := 1) (v := ?_) rfl (by kernel_rfl) (by kernel_rfl) (by kernel_rfl) (fun _ _ _ h => h) (Or.inl ⟨by rfl, ?_⟩) hHeld ?_
        rotate_left
        · intro w' hSw; try dsimp only at hSw
          go_simp; try (with_reducible rfl)
        try simp only [Act.put, List.getElem_toArray, List.getElem_cons_succ, List.getElem_cons_zero, List.setIfInBounds_toArray, List.set_cons_zero, List.set_cons_succ]
        refine wpAnyH_take (i := 2) (v := ?_) rfl (by kernel_rfl) (by kernel_rfl) (by kernel_rfl) (fun _ _ _ h => h) (Or.inl ⟨by rfl, ?_⟩) hHeld ?_
        rotate_left
        · intro w' hSw; try dsimp only at hSw
          obtain ⟨b1, b2, b3, _⟩ := hSw
          have z0 := b1.cell' (i := 0) rfl
          have z1 := b1.cell' (i := 1) rfl
          have z2 := b1.cell' (i := 2) rfl
          have z3 := b1.cell' (i := 3) rfl
          have z4 := b1.cell' (i := 4) rfl
          have z5 := b1.cell' (i := 5) rfl
          have y0 := b2.cell' (i := 0) rfl
          have c0 := b3.cell' f0
          have c1 := b3.cell' f1
          have c2 := b3.cell' f2
          have c3 := b3.cell' f3
          have c4 := b3.cell' f4
          have c5 := b3.cell' f5
          go_simp; try (with_reducible rfl)
        try simp only [Act.put, List.getElem_toArray, List.getElem_cons_succ, List.getElem_cons_zero, List.setIfInBounds_toArray, List.set_cons_zero, List.set_cons_succ]
        refine wpAnyH_take (i := 3) (v := ?_) rfl (by kernel_rfl) (by kernel_rfl) (by kernel_rfl) (fun _ _ _ h => h) (Or.inl ⟨by rfl, ?_⟩) hHeld ?_
        rotate_left
        · intro w' hSw; try dsimp only at hSw
          obtain ⟨b1, b2, b3, _⟩ := hSw
          have z0 := b1.cell' (i := 0) rfl
          have z1 := b1.cell' (i := 1) rfl
          have z2 := b1.cell' (i := 2) rfl
          have z3 := b1.cell' (i := 3) rfl
          have z4 := b1.cell' (i := 4) rfl
          have z5 := b1.cell' (i := 5) rfl
          have y0 := b2.cell' (i := 0) rfl
          have c0 := b3.cell' f0
          have c1 := b3.cell' f1
          have c2 := b3.cell' f2
          have c3 := b3.cell' f3
          have c4 := b3.cell' f4
          have c5 := b3.cell' f5
          go_simp; try (with_reducible rfl)
        try simp only [Act.put, List.getElem_toArray, List.getElem_cons_succ, List.getElem_cons_zero, List.setIfInBounds_toArray, List.set_cons_zero, List.set_cons_succ]
        refine wpAnyH_take (i := 4) (v := ?_) rfl (by kernel_rfl) (by kernel_rfl) (by kernel_rfl) (fun _ _ _ h => h) (Or.inl ⟨by rfl, ?_⟩) hHeld ?_
        rotate_left
        · intro w' hSw; try dsimp only at hSw
          go_simp; try (with_reducible rfl)
        try simp only [Act.put, List.getElem_toArray, List.getElem_cons_succ, List.getElem_cons_zero, List.setIfInBounds_toArray, List.set_cons_zero, List.set_cons_succ]
        refine wpAnyH_take (i := 5) (v := ?_) rfl (by kernel_rfl) (by kernel_rfl) (by kernel_rfl) (fun _ _ _ h => h) (Or.inl ⟨by rfl, ?_⟩) hHeld ?_
        rotate_left
        · intro w' hSw; try dsimp only at hSw
          go_simp; try (with_reducible rfl)
        try simp only [Act.put, List.getElem_toArray, List.getElem_cons_succ, List.getElem_cons_zero, List.setIfInBounds_toArray, List.set_cons_zero, List.set_cons_succ]
        refine wpAnyH_take (i := 6) (v := ?_) rfl (by kernel_rfl) (by kernel_rfl) (by kernel_rfl) (fun _ _ _ h => h) (Or.inl ⟨by rfl, ?_⟩) hHeld ?_
        rotate_left
        · intro w' hSw; try dsimp only at hSw
          go_simp; try (with_reducible rfl)
        try simp only [Act.put, List.getElem_toArray, List.getElem_cons_succ, List.getElem_cons_zero, List.setIfInBounds_toArray, List.set_cons_zero, List.set_cons_succ]
        refine wpAnyH_take (i := 7) (v := ?_) rfl (by kernel_rfl) (by kernel_rfl) (by kernel_rfl) (fun _ _ _ h => h) (Or.inl ⟨by rfl, ?_⟩) hHeld ?_
        rotate_left
        · intro w' hSw; try dsimp only at hSw
          obtain ⟨b1, b2, b3, _⟩ := hSw
          have z0 := b1.cell' (i := 0) rfl
          have z1 := b1.cell' (i := 1) rfl
          have z2 := b1.cell' (i := 2) rfl
          have z3 := b1.cell' (i := 3) rfl
          have z4 := b1.cell' (i := 4) rfl
          have z5 := b1.cell' (i := 5) rfl
          have y0 := b2.cell' (i := 0) rfl
          have c0 := b3.cell' f0
          have c1 := b3.cell' f1
          have c2 := b3.cell' f2
          have c3 := b3.cell' f3
          have c4 := b3.cell' f4
          have c5 := b3.cell' f5
          go_simp; try (with_reducible rfl)
        try simp only [Act.put, List.getElem_toArray, List.getElem_cons_succ, List.getElem_cons_zero, List.setIfInBounds_toArray, List.set_cons_zero, List.set_cons_succ]
        refine wpAnyH_take (i := 8) (v := ?_) rfl (by kernel_rfl) (by kernel_rfl) (by kernel_rfl) (fun _ _ _ h => h) (Or.inl ⟨by rfl, ?_⟩) hHeld ?_
        rotate_left
        · intro w' hSw; try dsimp only at hSw
          obtain ⟨b1, b2, b3, _⟩ := hSw
          have z0 := b1.cell' (i := 0) rfl
          have z1 := b1.cell' (i := 1) rfl
          have z2 := b1.cell' (i := 2) rfl
          have z3 := b1.cell' (i := 3) rfl
          have z4 := b1.cell' (i := 4) rfl
          have z5 := b1.cell' (i := 5) rfl
          have y0 := b2.cell' (i := 0) rfl
          have c0 := b3.cell' f0
          have c1 := b3.cell' f1
          have c2 := b3.cell' f2
          have c3 := b3.cell' f3
          have c4 := b3.cell' f4
          have c5 := b3.cell' f5
          go_simp; try (with_reducible rfl)
        try simp only [Act.put, List.getElem_toArray, List.getElem_cons_succ, List.getElem_cons_zero, List.setIfInBounds_toArray, List.set_cons_zero, List.set_cons_succ]
        refine wpAnyH_take (i := 9) (v := ?_) rfl (by kernel_rfl) (by kernel_rfl) (by kernel_rfl) (fun _ _ _ h => h) (Or.inl ⟨by rfl, ?_⟩) hHeld ?_
        rotate_left
        · intro w' hSw; try dsimp only at hSw
          go_simp; try (with_reducible rfl)
        try simp only [Act.put, List.getElem_toArray, List.getElem_cons_succ, List.getElem_cons_zero, List.setIfInBounds_toArray, List.set_cons_zero, List.set_cons_succ]
        refine wpAnyH_take (i := 10) (v := ?_) rfl (by kernel_rfl) (by kernel_rfl) (by kernel_rfl) (fun _ _ _ h => h) (Or.inl ⟨by rfl, ?_⟩) hHeld ?_
        rotate_left
        · intro w' hSw; try dsimp only at hSw
          go_simp; try (with_reducible rfl)
        try simp only [Act.put, List.getElem_toArray, List.getElem_cons_succ, List.getElem_cons_zero, List.setIfInBounds_toArray, List.set_cons_zero, List.set_cons_succ]
        refine wpAnyH_take (i := 11) (v := ?_) rfl (by kernel_rfl) (by kernel_rfl) (by kernel_rfl) (fun _ _ _ h => h) (Or.inl ⟨by rfl, ?_⟩) hHeld ?_
        rotate_left
        · intro w' hSw; try dsimp only at hSw
          obtain ⟨b1, b2, b3, _⟩ := hSw
          have z0 := b1.cell' (i := 0) rfl
          have z1 := b1.cell' (i := 1) rfl
          have z2 := b1.cell' (i := 2) rfl
          have z3 := b1.cell' (i := 3) rfl
          have z4 := b1.cell' (i := 4) rfl
          have z5 := b1.cell' (i := 5) rfl
          have y0 := b2.cell' (i := 0) rfl
          have c0 := b3.cell' f0
          have c1 := b3.cell' f1
          have c2 := b3.cell' f2
          have c3 := b3.cell' f3
          have c4 := b3.cell' f4
          have c5 := b3.cell' f5
          go_simp; try (with_reducible rfl)
        try simp only [Act.put, List.getElem_toArray, List.getElem_cons_succ, List.getElem_cons_zero, List.setIfInBounds_toArray, List.set_cons_zero, List.set_cons_succ]
        refine wpAnyH_take (i := 12) (v := ?_) rfl (by kernel_rfl) (by kernel_rfl) (by kernel_rfl) (fun _ _ _ h => h) (Or.inl ⟨by rfl, ?_⟩) hHeld ?_
        rotate_left
        · intro w' hSw; try dsimp only at hSw
          go_simp; try (with_reducible rfl)
        try simp only [Act.put, List.getElem_toArray, List.getElem_cons_succ, List.getElem_cons_zero, List.setIfInBounds_toArray, List.set_cons_zero, List.set_cons_succ]
        refine wpAnyH_take (i := 13) (v := ?_) rfl (by kernel_rfl) (by kernel_rfl) (by kernel_rfl) (fun _ _ _ h => h) (Or.inl ⟨by rfl, ?_⟩) hHeld ?_
        rotate_left
        · intro w' hSw; try dsimp only at hSw
          obtain ⟨b1, b2, b3, _⟩ := hSw
          have z0 := b1.cell' (i := 0) rfl
          have z1 := b1.cell' (i := 1) rfl
          have z2 := b1.cell' (i := 2) rfl
          have z3 := b1.cell' (i := 3) rfl
          have z4 := b1.cell' (i := 4) rfl
          have z5 := b1.cell' (i := 5) rfl
          have y0 := b2.cell' (i := 0) rfl
          have c0 := b3.cell' f0
          have c1 := b3.cell' f1
          have c2 := b3.cell' f2
          have c3 := b3.cell' f3
          have c4 := b3.cell' f4
          have c5 := b3.cell' f5
          go_simp; try (with_reducible rfl)
        try simp only [Act.put, List.getElem_toArray, List.getElem_cons_succ, List.getElem_cons_zero, List.setIfInBounds_toArray, List.set_cons_zero, List.set_cons_succ]
        refine wpAnyH_ready (rs := [14]) (by kernel_rfl) (by simp) ?_
        refine AllReadyH.cons rfl (fun K hK => ?_) AllReadyH.nil
        go_simp
        refine (isAhead_any ⟨xh, xg, xk, (q : Int), xs', xt⟩ ⟨rh, rg, rk, rp, rs', rt⟩ _).mono ?_
        rintro e W2 ⟨rfl, hbn⟩
        try go_wp2_with fail
        refine hK.out _ _ ⟨hHeld.1.kept hbn, hHeld.2.1.kept hbn, hHeld.2.2.1.kept hbn, bt hHeld.2.2.2 hbn⟩ (fun hHeld => ?_)
        clear hK K
        try simp only [Act.put, List.getElem_toArray, List.getElem_cons_succ, List.getElem_cons_zero, List.setIfInBounds_toArray, List.set_cons_zero, List.set_cons_succ]
        clear hbn
        refine wpAnyH_take (i := 15) (v := ?_) rfl (by kernel_rfl) (by kernel_rfl) (by kernel_rfl) (fun _ _ _ h => h) (Or.inl ⟨by rfl, ?_⟩) hHeld ?_
        rotate_left
        · intro w' hSw; try dsimp only at hSw
          go_simp; try (with_reducible rfl)
        try simp only [Act.put, List.getElem_toArray, List.getElem_cons_succ, List.getElem_cons_zero, List.setIfInBounds_toArray, List.set_cons_zero, List.set_cons_succ]
        refine wpAnyH_done (by kernel_rfl) ?_ _
        refine NoBad.normal ?_
        obtain ⟨d1, d2, d3, d4⟩ := hHeld
        have z0 := d1.cell' (i := 0) rfl
        have z1 := d1.cell' (i := 1) rfl
        have z2 := d1.cell' (i := 2) rfl
        have z3 := d1.cell' (i := 3) rfl
        have z4 := d1.cell' (i := 4) rfl
        have z5 := d1.cell' (i := 5) rfl
        have y0 := d2.cell' (i := 0) rfl
        have c0 := d3.cell' f0
        have c1 := d3.cell' f1
        have c2 := d3.cell' f2
        have c3 := d3.cell' f3
        have c4 := d3.cell' f4
        have c5 := d3.cell' f5
        have e0 := d3.frozen (q * 6)
        have e1 := d3.frozen (q * 6 + 1)
        have e2 := d3.frozen (q * 6 + 2)
        have e3 := d3.frozen (q * 6 + 3)
        have e4 := d3.frozen (q * 6 + 4)
        have e5 := d3.frozen (q * 6 + 5)
        gi_wp2
        skip
        have m3 := ((((((d3.set (q * 6) (.int .i64 xh)).set (q * 6 + 1) (.int .i64 xg)).set (q * 6 + 2) (.int .i64 xk)).set (q * 6 + 3) (.int .i64 (q : Int))).set (q * 6 + 4) (.int .i64 xs')).set (q * 6 + 5) (.int .i64 xt))
        rw [flatF_set ⟨xh, xg, xk, (q : Int), xs', xt⟩ (by rw [HT.out]; exact hqM)] at m3
        have mt := ((((((Turned.setCell W2 ⟨g, q * 6, none⟩ (.int .i64 xh)).trans (Turned.setCell _ ⟨g, q * 6 + 1, none⟩ (.int .i64 xg))).trans (Turned.setCell _ ⟨g, q * 6 + 2, none⟩ (.int .i64 xk))).trans (Turned.setCell _ ⟨g, q * 6 + 3, none⟩ (.int .i64 (q : Int)))).trans (Turned.setCell _ ⟨g, q * 6 + 4, none⟩ (.int .i64 xs'))).trans (Turned.setCell _ ⟨g, q * 6 + 5, none⟩ (.int .i64 xt)))
        dsimp only at mt
        have mk := (KeepsOthers.of_below d4).trans (KeepsOthers.of_turned mt d3)
        have hs4 := d4.size
        have hw4 := hB4.size
        have mK : KpF B1 B2 n p W _ := (KpF.below d4 (by omega) (by omega) (fun h0 a e => by have := hp0 h0 a e; omega)).trans (KpF.turned mt (by omega) (by omega) (fun h0 a e => by have := hp0 h0 a e; omega))
        have hsz := mt.size
        exact ⟨mk.from _, mK, d2.turned mt (by omega), by rw [HS.out, HS2.out]; exact m3, mt.below (bt hn3 d4) hgw, by rw [hsz]; omega⟩
      | false =>
        have HS2 : Hid (stepF T ⟨xh, xg, xk, (q : Int), xs', xt⟩ = T) := by
          show _ = _; unfold stepF
          rw [if_neg]
          rintro ⟨_, h2⟩
          rw [show ((⟨xh, xg, xk, (q : Int), xs', xt⟩ : Fd).p).toNat = q from Int.toNat_natCast q, HE.out, ha] at h2
          cases h2
        gi_wp2
        refine wpIn_region_held_round (S := fun X => Blk X Bx 33 [.int .i64 xh, .int .i64 xg, .int .i64 xk, .int .i64 (q : Int), .int .i64 xs', .int .i64 xt] ∧ Blk X Bn 27 [.slice (some ⟨g, 0, none⟩) M M] ∧ Blk X g 33 (flatF T) ∧ Below W.heap.size W X) (by kernel_rfl) (by kernel_rfl) ⟨hX.drew, hn1.drew, hn2.drew, (Below.refl _ _).drew⟩ (fun hHeld => ?_)
        refine wpAnyH_take (i := 0) (v := ?_) rfl (by kernel_rfl) (by kernel_rfl) (by kernel_rfl) (fun _ _ _ h => h) (Or.inl ⟨by rfl, ?_⟩) hHeld ?_
        rotate_left
        · intro w' hSw; try dsimp only at hSw
          go_simp; try (with_reducible rfl)
        try simp only [Act.put, List.getElem_toArray, List.getElem_cons_succ, List.getElem_cons_zero, List.setIfInBounds_toArray, List.set_cons_zero, List.set_cons_succ]
        refine wpAnyH_take (i := 1) (v := ?_) rfl (by kernel_rfl) (by kernel_rfl) (by kernel_rfl) (fun _ _ _ h => h) (Or.inl ⟨by rfl, ?_⟩) hHeld ?_
        rotate_left
        · intro w' hSw; try dsimp only at hSw
          go_simp; try (with_reducible rfl)
        try simp only [Act.put, List.getElem_toArray, List.getElem_cons_succ, List.getElem_cons_zero, List.setIfInBounds_toArray, List.set_cons_zero, List.set_cons_succ]
        refine wpAnyH_take (i := 2) (v := ?_) rfl (by kernel_rfl) (by kernel_rfl) (by kernel_rfl) (fun _ _ _ h => h) (Or.inl ⟨by rfl, ?_⟩) hHeld ?_
        rotate_left
        · intro w' hSw; try dsimp only at hSw
          obtain ⟨b1, b2, b3, _⟩ := hSw
          have z0 := b1.cell' (i := 0) rfl
          have z1 := b1.cell' (i := 1) rfl
          have z2 := b1.cell' (i := 2) rfl
          have z3 := b1.cell' (i := 3) rfl
          have z4 := b1.cell' (i := 4) rfl
          have z5 := b1.cell' (i := 5) rfl
          have y0 := b2.cell' (i := 0) rfl
          have c0 := b3.cell' f0
          have c1 := b3.cell' f1
          have c2 := b3.cell' f2
          have c3 := b3.cell' f3
          have c4 := b3.cell' f4
          have c5 := b3.cell' f5
          go_simp; try (with_reducible rfl)
        try simp only [Act.put, List.getElem_toArray, List.getElem_cons_succ, List.getElem_cons_zero, List.setIfInBounds_toArray, List.set_cons_zero, List.set_cons_succ]
        refine wpAnyH_take (i := 3) (v := ?_) rfl (by kernel_rfl) (by kernel_rfl) (by kernel_rfl) (fun _ _ _ h => h) (Or.inl ⟨by rfl, ?_⟩) hHeld ?_
        rotate_left
        · intro w' hSw; try dsimp only at hSw
          obtain ⟨b1, b2, b3, _⟩ := hSw
          have z0 := b1.cell' (i := 0) rfl
          have z1 := b1.cell' (i := 1) rfl
          have z2 := b1.cell' (i := 2) rfl
          have z3 := b1.cell' (i := 3) rfl
          have z4 := b1.cell' (i := 4) rfl
          have z5 := b1.cell' (i := 5) rfl
          have y0 := b2.cell' (i := 0) rfl
          have c0 := b3.cell' f0
          have c1 := b3.cell' f1
          have c2 := b3.cell' f2
          have c3 := b3.cell' f3
          have c4 := b3.cell' f4
          have c5 := b3.cell' f5
          go_simp; try (with_reducible rfl)
        try simp only [Act.put, List.getElem_toArray, List.getElem_cons_succ, List.getElem_cons_zero, List.setIfInBounds_toArray, List.set_cons_zero, List.set_cons_succ]
        refine wpAnyH_take (i := 4) (v := ?_) rfl (by kernel_rfl) (by kernel_rfl) (by kernel_rfl) (fun _ _ _ h => h) (Or.inl ⟨by rfl, ?_⟩) hHeld ?_
        rotate_left
        · intro w' hSw; try dsimp only at hSw
          go_simp; try (with_reducible rfl)
        try simp only [Act.put, List.getElem_toArray, List.getElem_cons_succ, List.getElem_cons_zero, List.setIfInBounds_toArray, List.set_cons_zero, List.set_cons_succ]
        refine wpAnyH_take (i := 5) (v := ?_) rfl (by kernel_rfl) (by kernel_rfl) (by kernel_rfl) (fun _ _ _ h => h) (Or.inl ⟨by rfl, ?_⟩) hHeld ?_
        rotate_left
        · intro w' hSw; try dsimp only at hSw
          go_simp; try (with_reducible rfl)
        try simp only [Act.put, List.getElem_toArray, List.getElem_cons_succ, List.getElem_cons_zero, List.setIfInBounds_toArray, List.set_cons_zero, List.set_cons_succ]
        refine wpAnyH_take (i := 6) (v := ?_) rfl (by kernel_rfl) (by kernel_rfl) (by kernel_rfl) (fun _ _ _ h => h) (Or.inl ⟨by rfl, ?_⟩) hHeld ?_
        rotate_left
        · intro w' hSw; try dsimp only at hSw
          go_simp; try (with_reducible rfl)
        try simp only [Act.put, List.getElem_toArray, List.getElem_cons_succ, List.getElem_cons_zero, List.setIfInBounds_toArray, List.set_cons_zero, List.set_cons_succ]
        refine wpAnyH_take (i := 7) (v := ?_) rfl (by kernel_rfl) (by kernel_rfl) (by kernel_rfl) (fun _ _ _ h => h) (Or.inl ⟨by rfl, ?_⟩) hHeld ?_
        rotate_left
        · intro w' hSw; try dsimp only at hSw
          obtain ⟨b1, b2, b3, _⟩ := hSw
          have z0 := b1.cell' (i := 0) rfl
          have z1 := b1.cell' (i := 1) rfl
          have z2 := b1.cell' (i := 2) rfl
          have z3 := b1.cell' (i := 3) rfl
          have z4 := b1.cell' (i := 4) rfl
          have z5 := b1.cell' (i := 5) rfl
          have y0 := b2.cell' (i := 0) rfl
          have c0 := b3.cell' f0
          have c1 := b3.cell' f1
          have c2 := b3.cell' f2
          have c3 := b3.cell' f3
          have c4 := b3.cell' f4
          have c5 := b3.cell' f5
          go_simp; try (with_reducible rfl)
        try simp only [Act.put, List.getElem_toArray, List.getElem_cons_succ, List.getElem_cons_zero, List.setIfInBounds_toArray, List.set_cons_zero, List.set_cons_succ]
        refine wpAnyH_take (i := 8) (v := ?_) rfl (by kernel_rfl) (by kernel_rfl) (by kernel_rfl) (fun _ _ _ h => h) (Or.inl ⟨by rfl, ?_⟩) hHeld ?_
        rotate_left
        · intro w' hSw; try dsimp only at hSw
          obtain ⟨b1, b2, b3, _⟩ := hSw
          have z0 := b1.cell' (i := 0) rfl
          have z1 := b1.cell' (i := 1) rfl
          have z2 := b1.cell' (i := 2) rfl
          have z3 := b1.cell' (i := 3) rfl
          have z4 := b1.cell' (i := 4) rfl
          have z5 := b1.cell' (i := 5) rfl
          have y0 := b2.cell' (i := 0) rfl
          have c0 := b3.cell' f0
          have c1 := b3.cell' f1
          have c2 := b3.cell' f2
          have c3 := b3.cell' f3
          have c4 := b3.cell' f4
          have c5 := b3.cell' f5
          go_simp; try (with_reducible rfl)
        try simp only [Act.put, List.getElem_toArray, List.getElem_cons_succ, List.getElem_cons_zero, List.setIfInBounds_toArray, List.set_cons_zero, List.set_cons_succ]
        refine wpAnyH_take (i := 9) (v := ?_) rfl (by kernel_rfl) (by kernel_rfl) (by kernel_rfl) (fun _ _ _ h => h) (Or.inl ⟨by rfl, ?_⟩) hHeld ?_
        rotate_left
        · intro w' hSw; try dsimp only at hSw
          go_simp; try (with_reducible rfl)
        try simp only [Act.put, List.getElem_toArray, List.getElem_cons_succ, List.getElem_cons_zero, List.setIfInBounds_toArray, List.set_cons_zero, List.set_cons_succ]
        refine wpAnyH_take (i := 10) (v := ?_) rfl (by kernel_rfl) (by kernel_rfl) (by kernel_rfl) (fun _ _ _ h => h) (Or.inl ⟨by rfl, ?_⟩) hHeld ?_
        rotate_left
        · intro w' hSw; try dsimp only at hSw
          go_simp; try (with_reducible rfl)
        try simp only [Act.put, List.getElem_toArray, List.getElem_cons_succ, List.getElem_cons_zero, List.setIfInBounds_toArray, List.set_cons_zero, List.set_cons_succ]
        refine wpAnyH_take (i := 11) (v := ?_) rfl (by kernel_rfl) (by kernel_rfl) (by kernel_rfl) (fun _ _ _ h => h) (Or.inl ⟨by rfl, ?_⟩) hHeld ?_
        rotate_left
        · intro w' hSw; try dsimp only at hSw
          obtain ⟨b1, b2, b3, _⟩ := hSw
          have z0 := b1.cell' (i := 0) rfl
          have z1 := b1.cell' (i := 1) rfl
          have z2 := b1.cell' (i := 2) rfl
          have z3 := b1.cell' (i := 3) rfl
          have z4 := b1.cell' (i := 4) rfl
          have z5 := b1.cell' (i := 5) rfl
          have y0 := b2.cell' (i := 0) rfl
          have c0 := b3.cell' f0
          have c1 := b3.cell' f1
          have c2 := b3.cell' f2
          have c3 := b3.cell' f3
          have c4 := b3.cell' f4
          have c5 := b3.cell' f5
          go_simp; try (with_reducible rfl)
        try simp only [Act.put, List.getElem_toArray, List.getElem_cons_succ, List.getElem_cons_zero, List.setIfInBounds_toArray, List.set_cons_zero, List.set_cons_succ]
        refine wpAnyH_take (i := 12) (v := ?_) rfl (by kernel_rfl) (by kernel_rfl) (by kernel_rfl) (fun _ _ _ h => h) (Or.inl ⟨by rfl, ?_⟩) hHeld ?_
        rotate_left
        · intro w' hSw; try dsimp only at hSw
          go_simp; try (with_reducible rfl)
        try simp only [Act.put, List.getElem_toArray, List.getElem_cons_succ, List.getElem_cons_zero, List.setIfInBounds_toArray, List.set_cons_zero, List.set_cons_succ]
        refine wpAnyH_take (i := 13) (v := ?_) rfl (by kernel_rfl) (by kernel_rfl) (by kernel_rfl) (fun _ _ _ h => h) (Or.inl ⟨by rfl, ?_⟩) hHeld ?_
        rotate_left
        · intro w' hSw; try dsimp only at hSw
          obtain ⟨b1, b2, b3, _⟩ := hSw
          have z0 := b1.cell' (i := 0) rfl
          have z1 := b1.cell' (i := 1) rfl
          have z2 := b1.cell' (i := 2) rfl
          have z3 := b1.cell' (i := 3) rfl
          have z4 := b1.cell' (i := 4) rfl
          have z5 := b1.cell' (i := 5) rfl
          have y0 := b2.cell' (i := 0) rfl
          have c0 := b3.cell' f0
          have c1 := b3.cell' f1
          have c2 := b3.cell' f2
          have c3 := b3.cell' f3
          have c4 := b3.cell' f4
          have c5 := b3.cell' f5
          go_simp; try (with_reducible rfl)
        try simp only [Act.put, List.getElem_toArray, List.getElem_cons_succ, List.getElem_cons_zero, List.setIfInBounds_toArray, List.set_cons_zero, List.set_cons_succ]
        refine wpAnyH_ready (rs := [14]) (by kernel_rfl) (by simp) ?_
        refine AllReadyH.cons rfl (fun K hK => ?_) AllReadyH.nil
        go_simp
        refine (isAhead_any ⟨xh, xg, xk, (q : Int), xs', xt⟩ ⟨rh, rg, rk, rp, rs', rt⟩ _).mono ?_
        rintro e W2 ⟨rfl, hbn⟩
        try go_wp2_with fail
        refine hK.out _ _ ⟨hHeld.1.kept hbn, hHeld.2.1.kept hbn, hHeld.2.2.1.kept hbn, bt hHeld.2.2.2 hbn⟩ (fun hHeld => ?_)
        clear hK K
        try simp only [Act.put, List.getElem_toArray, List.getElem_cons_succ, List.getElem_cons_zero, List.setIfInBounds_toArray, List.set_cons_zero, List.set_cons_succ]
        clear hbn
        refine wpAnyH_take (i := 15) (v := ?_) rfl (by kernel_rfl) (by kernel_rfl) (by kernel_rfl) (fun _ _ _ h => h) (Or.inl ⟨by rfl, ?_⟩) hHeld ?_
        rotate_left
        · intro w' hSw; try dsimp only at hSw
          go_simp; try (with_reducible rfl)
        try simp only [Act.put, List.getElem_toArray, List.getElem_cons_succ, List.getElem_cons_zero, List.setIfInBounds_toArray, List.set_cons_zero, List.set_cons_succ]
        refine wpAnyH_done (by kernel_rfl) ?_ _
        refine NoBad.normal ?_
        obtain ⟨d1, d2, d3, d4⟩ := hHeld
        gi_wp2
        have hs4 := d4.size
        have hw4 := hB4.size
        exact ⟨(KeepsOthers.of_below d4).from _, KpF.below d4 (by omega) (by omega) (fun h0 a e => by have := hp0 h0 a e; omega), d2, by rw [HS.out, HS2.out]; exact d3, bt hn3 d4, by omega⟩
    · have hqi : ¬ (q : Int) < (M : Int) := by omega
      have HS2 : Hid (stepF T ⟨xh, xg, xk, (q : Int), xs', xt⟩ = T) := by show _ = _; unfold stepF; rw [if_neg (fun h => hqi (by have := h.1; rw [HT.out] at this; exact this))]
      clear HT
      gi_wp2
      refine wpIn_region_held_round (S := fun X => Blk X Bx 33 [.int .i64 xh, .int .i64 xg, .int .i64 xk, .int .i64 (q : Int), .int .i64 xs', .int .i64 xt] ∧ Blk X Bn 27 [.slice (some ⟨g, 0, none⟩) M M] ∧ Blk X g 33 (flatF T) ∧ Below W.heap.size W X) (by kernel_rfl) (by kernel_rfl) ⟨hX.drew, hn1.drew, hn2.drew, (Below.refl _ _).drew⟩ (fun hHeld => ?_)
      refine wpAnyH_take (i := 0) (v := ?_) rfl (by kernel_rfl) (by kernel_rfl) (by kernel_rfl) (fun _ _ _ h => h) (Or.inl ⟨by rfl, ?_⟩) hHeld ?_
      rotate_left
      · intro w' hSw; try dsimp only at hSw
        go_simp; try (with_reducible rfl)
      try simp only [Act.put, List.getElem_toArray, List.getElem_cons_succ, List.getElem_cons_zero, List.setIfInBounds_toArray, List.set_cons_zero, List.set_cons_succ]
      refine wpAnyH_take (i := 1) (v := ?_) rfl (by kernel_rfl) (by kernel_rfl) (by kernel_rfl) (fun _ _ _ h => h) (Or.inl ⟨by rfl, ?_⟩) hHeld ?_
      rotate_left
      · intro w' hSw; try dsimp only at hSw
        go_simp; try (with_reducible rfl)
      try simp only [Act.put, List.getElem_toArray, List.getElem_cons_succ, List.getElem_cons_zero, List.setIfInBounds_toArray, List.set_cons_zero, List.set_cons_succ]
      refine wpAnyH_take (i := 2) (v := ?_) rfl (by kernel_rfl) (by kernel_rfl) (by kernel_rfl) (fun _ _ _ h => h) (Or.inl ⟨by rfl, ?_⟩) hHeld ?_
      rotate_left
      · intro w' hSw; try dsimp only at hSw
        obtain ⟨b1, b2, b3, _⟩ := hSw
        have z0 := b1.cell' (i := 0) rfl
        have z1 := b1.cell' (i := 1) rfl
        have z2 := b1.cell' (i := 2) rfl
        have z3 := b1.cell' (i := 3) rfl
        have z4 := b1.cell' (i := 4) rfl
        have z5 := b1.cell' (i := 5) rfl
        have y0 := b2.cell' (i := 0) rfl
        go_simp; try (with_reducible rfl)
      try simp only [Act.put, List.getElem_toArray, List.getElem_cons_succ, List.getElem_cons_zero, List.setIfInBounds_toArray, List.set_cons_zero, List.set_cons_succ]
      refine wpAnyH_take (i := 3) (v := ?_) rfl (by kernel_rfl) (by kernel_rfl) (by kernel_rfl) (fun _ _ _ h => h) (Or.inl ⟨by rfl, ?_⟩) hHeld ?_
      rotate_left
      · intro w' hSw; try dsimp only at hSw
        obtain ⟨b1, b2, b3, _⟩ := hSw
        have z0 := b1.cell' (i := 0) rfl
        have z1 := b1.cell' (i := 1) rfl
        have z2 := b1.cell' (i := 2) rfl
        have z3 := b1.cell' (i := 3) rfl
        have z4 := b1.cell' (i := 4) rfl
        have z5 := b1.cell' (i := 5) rfl
        have y0 := b2.cell' (i := 0) rfl
        go_simp; try (with_reducible rfl)
      try simp only [Act.put, List.getElem_toArray, List.getElem_cons_succ, List.getElem_cons_zero, List.setIfInBounds_toArray, List.set_cons_zero, List.set_cons_succ]
      refine wpAnyH_take (i := 4) (v := ?_) rfl (by kernel_rfl) (by kernel_rfl) (by kernel_rfl) (fun _ _ _ h => h) (Or.inl ⟨by rfl, ?_⟩) hHeld ?_
      rotate_left
      · intro w' hSw; try dsimp only at hSw
        go_simp; try (with_reducible rfl)
      try simp only [Act.put, List.getElem_toArray, List.getElem_cons_succ, List.getElem_cons_zero, List.setIfInBounds_toArray, List.set_cons_zero, List.set_cons_succ]
      refine wpAnyH_take (i := 5) (v := ?_) rfl (by kernel_rfl) (by kernel_rfl) (by kernel_rfl) (fun _ _ _ h => h) (Or.inl ⟨by rfl, ?_⟩) hHeld ?_
      rotate_left
      · intro w' hSw; try dsimp only at hSw
        go_simp; try (with_reducible rfl)
      try simp only [Act.put, List.getElem_toArray, List.getElem_cons_succ, List.getElem_cons_zero, List.setIfInBounds_toArray, List.set_cons_zero, List.set_cons_succ]
      refine wpAnyH_take (i := 6) (v := ?_) rfl (by kernel_rfl) (by kernel_rfl) (by kernel_rfl) (fun _ _ _ h => h) (Or.inl ⟨by rfl, ?_⟩) hHeld ?_
      rotate_left
      · intro w' hSw; try dsimp only at hSw
        go_simp; try (with_reducible rfl)
      try simp only [Act.put, List.getElem_toArray, List.getElem_cons_succ, List.getElem_cons_zero, List.setIfInBounds_toArray, List.set_cons_zero, List.set_cons_succ]
      refine wpAnyH_take (i := 7) (v := undef) rfl (by kernel_rfl) (by kernel_rfl) (by kernel_rfl) (fun _ _ _ h => h) (Or.inr ⟨by rfl, rfl⟩) hHeld ?_
      try simp only [Act.put, List.getElem_toArray, List.getElem_cons_succ, List.getElem_cons_zero, List.setIfInBounds_toArray, List.set_cons_zero, List.set_cons_succ]
      refine wpAnyH_take (i := 8) (v := undef) rfl (by kernel_rfl) (by kernel_rfl) (by kernel_rfl) (fun _ _ _ h => h) (Or.inr ⟨by rfl, rfl⟩) hHeld ?_
      try simp only [Act.put, List.getElem_toArray, List.getElem_cons_succ, List.getElem_cons_zero, List.setIfInBounds_toArray, List.set_cons_zero, List.set_cons_succ]
      refine wpAnyH_take (i := 9) (v := undef) rfl (by kernel_rfl) (by kernel_rfl) (by kernel_rfl) (fun _ _ _ h => h) (Or.inr ⟨by rfl, rfl⟩) hHeld ?_
      try simp only [Act.put, List.getElem_toArray, List.getElem_cons_succ, List.getElem_cons_zero, List.setIfInBounds_toArray, List.set_cons_zero, List.set_cons_succ]
      refine wpAnyH_take (i := 10) (v := undef) rfl (by kernel_rfl) (by kernel_rfl) (by kernel_rfl) (fun _ _ _ h => h) (Or.inr ⟨by rfl, rfl⟩) hHeld ?_
      try simp only [Act.put, List.getElem_toArray, List.getElem_cons_succ, List.getElem_cons_zero, List.setIfInBounds_toArray, List.set_cons_zero, List.set_cons_succ]
      refine wpAnyH_take (i := 11) (v := undef) rfl (by kernel_rfl) (by kernel_rfl) (by kernel_rfl) (fun _ _ _ h => h) (Or.inr ⟨by rfl, rfl⟩) hHeld ?_
      try simp only [Act.put, List.getElem_toArray, List.getElem_cons_succ, List.getElem_cons_zero, List.setIfInBounds_toArray, List.set_cons_zero, List.set_cons_succ]
      refine wpAnyH_take (i := 12) (v := undef) rfl (by kernel_rfl) (by kernel_rfl) (by kernel_rfl) (fun _ _ _ h => h) (Or.inr ⟨by rfl, rfl⟩) hHeld ?_
      try simp only [Act.put, List.getElem_toArray, List.getElem_cons_succ, List.getElem_cons_zero, List.setIfInBounds_toArray, List.set_cons_zero, List.set_cons_succ]
      refine wpAnyH_take (i := 13) (v := undef) rfl (by kernel_rfl) (by kernel_rfl) (by kernel_rfl) (fun _ _ _ h => h) (Or.inr ⟨by rfl, rfl⟩) hHeld ?_
      try simp only [Act.put, List.getElem_toArray, List.getElem_cons_succ, List.getElem_cons_zero, List.setIfInBounds_toArray, List.set_cons_zero, List.set_cons_succ]
      refine wpAnyH_take (i := 14) (v := undef) rfl (by kernel_rfl) (by kernel_rfl) (by kernel_rfl) (fun _ _ _ h => h) (Or.inr ⟨by rfl, rfl⟩) hHeld ?_
      try simp only [Act.put, List.getElem_toArray, List.getElem_cons_succ, List.getElem_cons_zero, List.setIfInBounds_toArray, List.set_cons_zero, List.set_cons_succ]
      refine wpAnyH_take (i := 15) (v := ?_) rfl (by kernel_rfl) (by kernel_rfl) (by kernel_rfl) (fun _ _ _ h => h) (Or.inl ⟨by rfl, ?_⟩) hHeld ?_
      rotate_left
      · intro w' hSw; try dsimp only at hSw
        go_simp; try (with_reducible rfl)
      try simp only [Act.put, List.getElem_toArray, List.getElem_cons_succ, List.getElem_cons_zero, List.setIfInBounds_toArray, List.set_cons_zero, List.set_cons_succ]
      refine wpAnyH_done (by kernel_rfl) ?_ _
      refine NoBad.normal ?_
      gi_wp2
      exact ⟨(KeepsOthers.drew _).from _, ⟨⟨rfl, rfl, Nat.le_refl _⟩, fun _ _ _ => rfl⟩, hn1.drew, by rw [HS.out, HS2.out]; exact hn2.drew, hn3.drew, hn4⟩
theorem newest_any (P : Int) (L M : Nat) (p : Option Addr) (n c : Nat) (xs : List Fd) (w : World) (hok : okSz P (L : Int) 1 = true) (hm : (L : Int) * P = (M : Int)) (hx : InF w p n c xs) :
    Calls Try.prog 15 #[.int .i64 P, .int .i64 (L : Int), .slice p n c] w fun e w' => ∃ g, e = .returned (.slice (some ⟨g, 0, none⟩) M M) ∧ w.heap.size ≤ g ∧ Blk w' g 29 (flatZ (placesOf (newestL P M xs))) ∧ Below w.heap.size w w' :=
  callsIn_wide.1 (newest_in 5 (by omega) P L M p n c xs w hok hm hx)
end Go.Proofs.Ytfgelncfmopibaa
