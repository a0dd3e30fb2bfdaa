/-
  What the law's logs answers where both have the same log.
-/
import Derived.Test.YtbnnekpglnnneaaDkLogs
namespace Go.Proofs.Ytbnnekpglnnneaa
open Go.RowKit Go.Shelf
attribute [local go_sem] Oper.semAt_some
def wroteOf (l : List (Nat × List Nat)) : List (Int × List Nat) := l.map fun x => ((x.1 : Int), x.2)
theorem wroteOf_get {l : List (Nat × List Nat)} {k : Nat} {x : Nat × List Nat} (h : l[k]? = some x) : (wroteOf l)[k]? = some ((x.1 : Int), x.2) := by rw [wroteOf, List.getElem?_map, h]; rfl
theorem rlog_at {w : World} {r : Nat} {V : RV} {t : RS} (h : RefIn w r V t) (h0 : 0 < t.wrote.length) : ∃ g cap, V.wv = .slice (some ⟨g, 0, none⟩) t.wrote.length cap := by
  have hwl := h.wec.len
  rw [List.length_map] at hwl
  obtain ⟨g, cap, hv, _⟩ := owns_at h.wrow (by omega)
  exact ⟨g, cap, by rw [hv, hwl]⟩
theorem rlog_len {w : World} {r : Nat} {V : RV} {t : RS} (h : RefIn w r V t) : ∃ q cap, V.wv = .slice q t.wrote.length cap := by
  have hwl := h.wec.len
  rw [List.length_map] at hwl
  obtain ⟨q, cap, hv⟩ := owns_slice h.wrow
  exact ⟨q, cap, by rw [hv, hwl]⟩
theorem stop_no {L : List (Nat × List Nat)} {ini : List FedL} {x : FedL} {k : Nat} (hk : k < L.length) (h : (ini ++ [x]).map fedW = L.take (k + 1)) : L[ini.length]? = some (fedW x) := by
  have hl := congrArg List.length h
  rw [List.length_map, List.length_append, List.length_take, Nat.min_eq_left (by omega)] at hl
  have hki : ini.length = k := by simpa using hl
  have hx : ((ini ++ [x]).map fedW)[k]? = some (fedW x) := by rw [← hki]; simp
  rw [h, List.getElem?_take_of_lt (by omega)] at hx
  rw [hki]; exact hx
set_option linter.unusedSimpArgs false in
set_option maxRecDepth 100000 in
set_option maxHeartbeats 4000000 in
theorem logs_in (n : Nat) (hn : 6 ≤ n) {w : World} {d sb : Nat} {lv : Value} {s : DS} {r : Nat} {V : RV} {t : RS} (hD : DiskIn w d sb lv s) (hR : RefIn w r V t) (hw : s.writes < 1024) (hrel : t.wrote = wroteOf s.log) :
    CallsIn Fence.wide n Try.prog 18 #[.pointer (some ⟨d, 0, none⟩), .pointer (some ⟨r, 0, none⟩)] w fun e w' => e = .returned (.bool true) ∧ Below w.heap.size w w' := by
  have h1 : 1 ≤ n := by omega
  have hll : Hid (t.wrote.length = s.log.length) := by show _ = _; rw [hrel, wroteOf, List.length_map]
  have hlen1 : s.log.length < 1024 := by have := hD.ll; omega
  have hb1 := below_alloc w (.cells #[.bool false] 4)
  have g0 := Blk.new' w 4 #[.bool false]
  have hD1 := hD.below hb1
  have hR1 := hR.below hb1
  have hlog := log_any hD1 hw
  have hnf := fun (W : World) (f : Fn) (a b : Array Value) => func_nil W f a b
  refine callsIn_of_wp_marks Try.func18 rfl trivial ?_ rfl
  simp only [Try.ntmps18, List.size_toArray, List.length_cons, List.length_nil, Nat.reduceAdd, Nat.reduceSub, Array.replicate_succ, Array.replicate_zero, List.push_toArray, List.append_toArray, List.nil_append, List.cons_append]
  gi_wp2
  refine ⟨trivial, ?_⟩
  refine (callsIn_wide.2 hlog).mono ?_
  rintro e w2 ⟨Bs, q, cq, rfl, hBs, hBlt, hown, hb2⟩
  have hR2 := hR1.below hb2
  have hrl := rlog_any hR2 (by rw [hll.out]; omega)
  obtain ⟨qw, cw, hwv⟩ := rlog_len hR2
  rw [hll.out] at hwv
  rw [hwv] at hrl
  have hB02 := bt hb1 hb2
  have g2 := g0.kept hb2
  clear hlog hD1 hR1
  gi_wp2
  refine ⟨trivial, ?_⟩
  refine (callsIn_wide.2 hrl).mono ?_
  rintro e w3 ⟨rfl, hb3⟩
  have hR3 := hR2.below hb3
  have hB03 := bt hB02 hb3
  have g3 := g2.kept hb3
  have hown3 := owns_below hown hb3
  have hBs3 := (hb3.cell (p := ⟨Bs, 0, none⟩) hBlt).trans hBs
  have hBlt3 := Nat.lt_of_lt_of_le hBlt hb3.size
  have hb4 := bt (below_alloc w3 (.cells #[.slice qw s.log.length cw] 38)) (below_alloc (w3.alloc (.cells #[.slice qw s.log.length cw] 38)) (.cells #[.int .i64 0] 3))
  have k6 := (Blk.new' w3 38 #[.slice qw s.log.length cw]).alloc (.cells #[.int .i64 0] 3)
  have k7 := Blk.new' (w3.alloc (.cells #[.slice qw s.log.length cw] 38)) 3 #[.int .i64 0]
  rw [World.size_alloc] at k7
  have hG0 : LogI w w3.heap.size (w3.heap.size + 1) (.slice qw s.log.length cw) r V t ((w3.alloc (.cells #[.slice qw s.log.length cw] 38)).alloc (.cells #[.int .i64 0] 3)) 0 := ⟨g3.kept hb4, k6, k7, hR3.below hb4, bt hB03 hb4⟩
  have hown4 := owns_below hown3 hb4
  have hBs4 := (hb4.cell (p := ⟨Bs, 0, none⟩) hBlt3).trans hBs3
  have hBlt4 := Nat.lt_of_lt_of_le hBlt3 hb4.size
  have hs4 : w.heap.size ≤ ((w3.alloc (.cells #[.slice qw s.log.length cw] 38)).alloc (.cells #[.int .i64 0] 3)).heap.size := hG0.bel.size
  have hg3 : ∀ j, (Value.slice q s.log.length cq).ownBlock = some j → j < w3.heap.size := fun j hj => (owns_row hown3 hj).choose_spec.2
  have hw3 : w.heap.size < w3.heap.size := g3.lt
  have hsz4 : ((w3.alloc (.cells #[.slice qw s.log.length cw] 38)).alloc (.cells #[.int .i64 0] 3)).heap.size = w3.heap.size + 2 := by simp
  gi_wp2
  generalize (w3.alloc (.cells #[.slice qw s.log.length cw] 38)).alloc (.cells #[.int .i64 0] 3) = w4 at *
  have hlenI : (s.log.length : Int) < 1024 := by omega
  refine range_feeds (α := FedL) h1 (gf := 55) (lb := #[.pointer (some ⟨Bs, 0, none⟩)]) rfl (enters_of Try.func55 (by kernel_rfl) rfl)
    (encs := encL) (Gv := GvL) (Kp := KpL (.slice q s.log.length cq)) (S := fun ys => ys.map fedW = s.log) (Sp := fun pre => ∃ k, k < s.log.length ∧ pre.map fedW = s.log.take (k + 1)) (N := s.log.length)
    (fun l J Jx W hW hJ hY h0 => log1_in (n - 1) (by omega) l Bs q cq s.log hD.okL (by omega) J Jx W hJ (owns_lowD (owns_below hown4 hW) (Nat.zero_le _)) ((hW.cell (p := ⟨Bs, 0, none⟩) hBlt4).trans hBs4) hY h0) (fun _ => rfl) (fun h k => h.trans k)
    (fun W l o o' hl _ _ => ⟨fun k hk => World.putObj_heap_other (by have := hg3 k hk; omega), by rw [World.putObj_size]; exact Nat.le_refl _⟩)
    (fun x W l o o' hl ho hx => In.cellsSame hx (fun k ob hk hc => World.putObj_heap_other (by rintro rfl; rw [hl] at hk; cases hk; rw [ho] at hc; cases hc)))
    (fun pre W => LogI w w3.heap.size (w3.heap.size + 1) (.slice qw s.log.length cw) r V t W pre.length)
    (fun pre _ => ∃ (ini : List FedL) (x : FedL), pre = ini ++ [x] ∧ s.log[ini.length]? ≠ some (fedW x))
    (fun pre X Y row hs hg hr => hs.abide hs4 hg hr)
    (fun pre X Y row hs hg hr => hs)
    hG0
    ?A ?assign ?body ?done ?stop
  case A => exact fun x => { tmps := #[.pointer (some ⟨d, 0, none⟩), .pointer (some ⟨r, 0, none⟩), undef, undef, .pointer (some ⟨w.heap.size, 0, none⟩), .func (.func 55) #[] #[.pointer (some ⟨Bs, 0, none⟩)], .pointer (some ⟨w3.heap.size, 0, none⟩), .pointer (some ⟨w3.heap.size + 1, 0, none⟩), .int .i64 (x.k : Int), .slice x.p 256 x.c, .pointer (some ⟨d, 0, none⟩), .func (.func 55) #[] #[.pointer (some ⟨Bs, 0, none⟩)], .func (.func 55) #[] #[.pointer (some ⟨Bs, 0, none⟩)], .bool false, .pointer (some ⟨r, 0, none⟩), .slice qw s.log.length cw, .func (.func 55) #[] #[.pointer (some ⟨Bs, 0, none⟩)], .int .i64 (x.k : Int), .slice x.p 256 x.c, undef, undef, undef, undef, undef, undef, undef, undef, undef, undef, undef, undef, undef, undef, undef, undef, undef, undef, undef, undef, undef, undef, undef, undef, undef, undef, undef, undef, undef], defers := [] }
  case assign =>
    intro l x W K hK
    dsimp only [encL]
    gi_wp2
    exact hK
  case stop =>
    rintro D pre W hDD ⟨k, hk, hpre⟩ ⟨ini, x, rfl, hx⟩ hdef
    exact absurd (stop_no hk hpre) hx
  case done =>
    rintro D xs W hDD hxs hG hdef
    have hxl : xs.length = s.log.length := by rw [← hxs, List.length_map]
    rw [hxl] at hG
    have c1 := hG.res.cell' (i := 0) (v := .bool false) rfl
    have f1 := hG.res.frozen 0
    have c6 := hG.box.cell' (i := 0) (v := .slice qw s.log.length cw) rfl
    have c7 := hG.cnt.cell' (i := 0) (v := .int .i64 (s.log.length : Int)) rfl
    have m1 := hG.res.set 0 (.bool true)
    have t1 := Turned.setCell W ⟨w.heap.size, 0, none⟩ (.bool true)
    dsimp only at t1
    have nD1 : w.heap.size ≠ D := by rintro rfl; rw [show W.heap[w.heap.size]? = _ from hG.res] at hdef; cases hdef
    have hdef2 := (t1.block D (Ne.symm nD1)).trans hdef
    have B2 := hG.bel.trans (t1.below (Below.refl w.heap.size _) (Nat.le_refl _))
    clear hxs hxl hdef
    gi_wp2
    generalize W.setCell ⟨w.heap.size, 0, none⟩ (.bool true) = W2 at *
    have d1 := (m1.same (World.putObj_heap_other (o := .deferred none) (r := D) nD1)).cell' (i := 0) (v := .bool true) rfl
    have hbD : Below w.heap.size w (W2.putObj D (.deferred none)) := B2.trans (belowK_b (w := w) (Nat.le_refl _) _ D _ _ (Nat.le_trans hs4 hDD) hdef2 rfl rfl)
    refine ⟨by simp, .inl ⟨_, _, rfl, run_takeDeferred hdef2, ?_⟩⟩
    simp [LeavesInM, LeavesIn, settle, results, Try.results18, go_sem, d1]
    exact hbD
  case body =>
    rintro l pre x W hl hsz0 hG hgv hlen
    obtain ⟨y, hy⟩ : ∃ y, s.log[pre.length]? = some y := ⟨_, List.getElem?_eq_getElem hlen⟩
    have hyw : t.wrote[pre.length]? = some ((y.1 : Int), y.2) := by rw [hrel]; exact wroteOf_get hy
    obtain ⟨g, cap, hv⟩ := rlog_at hG.ref (by rw [hll.out]; omega)
    rw [hwv, hll.out] at hv
    obtain ⟨sr, e1, e2, e3⟩ := hG.ref.wr hyw (hwv.trans hv)
    cases hv
    have c1 := hG.res.cell' (i := 0) (v := .bool false) rfl
    have f1 := hG.res.frozen 0
    have c6 := hG.box.cell' (i := 0) (v := .slice (some ⟨g, 0, none⟩) s.log.length cw) rfl
    have c7 := hG.cnt.cell' (i := 0) (v := .int .i64 (pre.length : Int)) rfl
    have f7 := hG.cnt.frozen 0
    have hq := equal_any _ _ _ _ _ _ _ _ W e3 (show In W x.p 256 x.c x.D from hgv)
    have hN := hG.next (by omega)
    rw [show ((pre.length + 1 : Nat) : Int) = (pre.length : Int) + 1 from by omega] at hN
    have h11 : 1 ≤ n - 1 - 1 := by omega
    have hnle : ¬ s.log.length ≤ pre.length := by omega
    have hki : (pre.length : Int) < (s.log.length : Int) := by omega
    have hkm : ∀ u : Value, KeepsFrom w4.heap.size W (W.setCell ⟨w3.heap.size + 1, 0, none⟩ u) := fun u => (KeepsOthers.setCell W ⟨w3.heap.size + 1, 0, none⟩ u).from _
    have hkr : ∀ u : Value, KeepsFrom w4.heap.size W (W.setCell ⟨w.heap.size, 0, none⟩ u) := fun u => (KeepsOthers.setCell W ⟨w.heap.size, 0, none⟩ u).from _
    have hkp : ∀ u : Value, KpL (.slice q s.log.length cq) W (W.setCell ⟨w3.heap.size + 1, 0, none⟩ u) := fun u => ⟨fun j hj => heap_setCell_other _ _ _ _ (by have := hg3 j hj; show j ≠ w3.heap.size + 1; omega), by rw [(Turned.setCell W ⟨w3.heap.size + 1, 0, none⟩ u).size]; exact Nat.le_refl _⟩
    have hIx : fedW x ≠ y → ∃ ini z, pre ++ [x] = ini ++ [z] ∧ s.log[ini.length]? ≠ some (fedW z) := fun h => ⟨pre, x, rfl, by rw [hy]; exact fun e => h (Option.some.inj e).symm⟩
    have hpl : (pre ++ [x]).length = pre.length + 1 := by simp
    have hwk : IntKind.i64.wrap ((pre.length : Int) + 1) = (pre.length : Int) + 1 := by rw [IntKind.wrap_i64]; omega
    by_cases hs : x.k = y.1
    · have hsi : (y.1 : Int) = (x.k : Int) := by rw [hs]
      by_cases hd : y.2 = x.D
      · have HB : (y.2 == x.D) = true := by rw [hd]; exact beq_self_eq_true _
        rw [HB] at hq
        rw [hsi] at e1
        clear hs hd HB hsi hIx hkr hy hyw
        gi_wp2_with (refine ⟨trivial, ?_⟩; gi_at_call 30; refine (CallsIn.inRound l (callsIn_wide.2 hq)).mono ?_; rintro e w' ⟨rfl, hw'⟩; have hw2 := hw'.symm; subst hw2; clear hw')
        exact ⟨hkm _, hkp _, by show LogI _ _ _ _ _ _ _ _ (pre ++ [x]).length; rw [hpl]; exact hN⟩
      · have HB : (y.2 == x.D) = false := by rw [beq_eq_false_iff_ne]; exact hd
        rw [HB] at hq
        rw [hsi] at e1
        have hI2 := hIx (fun e => hd (by rw [← e]; rfl))
        clear hs hd HB hsi hIx hkm hkp hy hyw
        gi_wp2_with (refine ⟨trivial, ?_⟩; gi_at_call 30; refine (CallsIn.inRound l (callsIn_wide.2 hq)).mono ?_; rintro e w' ⟨rfl, hw'⟩; have hw2 := hw'.symm; subst hw2; clear hw')
        exact ⟨hkr _, hI2⟩
    · have hsn : ¬ (y.1 : Int) = (x.k : Int) := by omega
      have hI2 := hIx (fun e => hs (by rw [← e]; rfl))
      clear hs hIx hkm hkp hy hyw
      gi_wp2
      refine ⟨trivial, ?_⟩
      gi_wp2
      exact ⟨hkr _, hI2⟩
end Go.Proofs.Ytbnnekpglnnneaa
