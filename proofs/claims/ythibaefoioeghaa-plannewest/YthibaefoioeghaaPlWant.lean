/-
  What a new table wants for its page 0.
-/
import Derived.Test.YthibaefoioeghaaPlOth
import Derived.Test.YthibaefoioeghaaPlAbout
namespace Go.Proofs.Ythibaefoioeghaa
open Go.RowKit
def N0 : Tab := newT 4 2 1 8
theorem n0_ok : okT N0 = true := by decide +kernel
theorem n0_row (V : TabV) : tabA V N0 = #[.int .i64 4, .int .i64 2, .int .i64 1, .slice V.pd V.nd V.cd, .slice V.ph V.nh V.ch, .int .i64 (-1), .int .i64 0, .int .i64 0, .slice V.pl V.nl V.cl] := rfl
theorem n0_may (V : TabV) (w : World) (h : TabIn w V N0) : Calls Try.prog 31 #[.agg #[.int .i64 4, .int .i64 2, .int .i64 1, .slice V.pd V.nd V.cd, .slice V.ph V.nh V.ch, .int .i64 (-1), .int .i64 0, .int .i64 0, .slice V.pl V.nl V.cl], .int .i64 3] w fun e w' => e = .returned (.bool true) ∧ Below w.heap.size w w' := by
  obtain ⟨P, L, hF⟩ := okT_facts n0_ok h
  have hP : P = 4 := by have := hF.pg; have e : N0.pages = 4 := rfl; omega
  subst hP
  exact may_any V N0 4 3 w h hF.pg hF.p0 hF.po hF.nl
set_option linter.unusedSimpArgs false in
set_option linter.unusedVariables false in
set_option maxRecDepth 100000 in
set_option maxHeartbeats 8000000 in
theorem want1_any (V : TabV) (g : Nat) (w : World) (h : TabIn w V N0) (hb : Blk w g 28 (#[.int .i64 4, .int .i64 2, .int .i64 1, .slice V.pd V.nd V.cd, .slice V.ph V.nh V.ch, .int .i64 (-1), .int .i64 0, .int .i64 0, .slice V.pl V.nl V.cl]).toList) :
    Calls Try.prog 30 #[.int .i64 3, .pointer (some ⟨g, 0, none⟩)] w fun e w' => e = .returned (.bool true) ∧ Below w.heap.size w w' := by
  have hm := n0_may V w h
  have y0 := hb.cell' (i := 0) rfl; have y1 := hb.cell' (i := 1) rfl; have y2 := hb.cell' (i := 2) rfl; have y3 := hb.cell' (i := 3) rfl; have y4 := hb.cell' (i := 4) rfl; have y5 := hb.cell' (i := 5) rfl; have y6 := hb.cell' (i := 6) rfl; have y7 := hb.cell' (i := 7) rfl; have y8 := hb.cell' (i := 8) rfl
  clear h hb
  go_enter Try.func30, Try.ntmps30
  go_wp2_with (go_at_call 31; refine hm.mono ?_; rintro e w1 ⟨rfl, k1⟩)
  go_ret
  exact ⟨rfl, k1⟩
set_option linter.unusedSimpArgs false in
set_option linter.unusedVariables false in
set_option maxRecDepth 100000 in
set_option maxHeartbeats 8000000 in
theorem index_any (V : TabV) (g gs : Nat) (w : World) (h : TabIn w V N0) (hb : Blk w g 28 (#[.int .i64 4, .int .i64 2, .int .i64 1, .slice V.pd V.nd V.cd, .slice V.ph V.nh V.ch, .int .i64 (-1), .int .i64 0, .int .i64 0, .slice V.pl V.nl V.cl]).toList) (hs : Blk w gs 3 (#[.int .i64 3, .int .i64 5, .int .i64 6, .int .i64 7]).toList) :
    Calls Try.prog 29 #[.slice (some ⟨gs, 0, none⟩) 4 4, .func (.func 30) #[] #[.pointer (some ⟨g, 0, none⟩)]] w fun e w' => e = .returned (.int .i64 0) ∧ Below w.heap.size w w' := by
  have hc := want1_any V g w h hb
  have s0 := hs.cell' (i := 0) rfl
  clear h hb hs
  go_enter Try.func29, Try.ntmps29
  go_wp2
  go_loopw [8] (fun t wr => t = .int .i64 0 ∧ wr = w) (fun _ _ => 0)
  case atStart => exact ⟨rfl, rfl⟩
  case round =>
    obtain ⟨rfl, rfl⟩ := hrel
    go_wp2_with (go_at_call 30; refine hc.mono ?_; rintro e w1 ⟨rfl, k1⟩)
    go_ret
    exact ⟨rfl, k1⟩
theorem sizeS2 (a b : Value) : (Try.prog.info? 30).map (·.size) = some [a, b].length := by show _ = some 2; kernel_rfl
theorem ret_stepE {fn : Func} {p u : Tmp} (h : fn.results = #[.cell p 30, .tmp u]) {R : Ending → World → Prop} {a : Act} {w : World} {g : Nat} {t : TypeId} {x y v : Value} (hp : a.tmps.getD p undef = .pointer (some ⟨g, 0, none⟩))
    (hb : Blk w g t [x, y]) (hd : a.defers = []) (hu : a.tmps.getD u undef = v) (hR : R (.returned (.tuple #[.agg #[x, y], v])) w) : bodyPost Try.prog fn R .ret a w := by
  refine bodyPost_ret (v := .tuple #[.agg #[x, y], v]) ?_ hd hR
  rw [results_cell_tmp h, hp, hu]
  simp only [asAddr, Sem.run_pure, Result.andThen_ok, run_loadVar_mid w g 0 30 [x, y] _ (hb.range 0 2 _ rfl) Try.underlying30 rfl (by kernel_rfl)]
set_option linter.unusedSimpArgs false in
set_option linter.unusedVariables false in
set_option maxRecDepth 100000 in
set_option maxHeartbeats 8000000 in
theorem want0_any (V : TabV) (w : World) (h : TabIn w V N0) :
    Calls Try.prog 10 #[.agg (tabA V N0), .int .i64 0] w fun e w' => e = .returned (.tuple #[.agg #[.int .i64 3, .int .i64 0], .int .i64 0]) ∧ Below w.heap.size w w' := by
  have hb0 := bt (below_alloc w (.cells (tabA V N0) 28)) (below_alloc (w.alloc (.cells (tabA V N0) 28)) (.cells #[.int .i64 0, .int .i64 0] 30))
  have b0 := (Blk.new' w 28 (tabA V N0)).alloc (.cells #[.int .i64 0, .int .i64 0] 30)
  have r0 := Blk.new' (w.alloc (.cells (tabA V N0) 28)) 30 #[.int .i64 0, .int .i64 0]
  rw [World.size_alloc] at r0
  have hT := h.below hb0
  have hre := reach_any V N0 0 _ hT
  rw [show reachE N0 0 = 0 by decide +kernel] at hre
  have hnx := fun w' => isNext_any V N0 4 0 w' rfl (by omega) (by omega)
  rw [show isNextP N0 4 0 = false by decide +kernel] at hnx
  have hix := fun w' g gs (hb : Below _ _ w') => index_any V g gs w' (hT.below hb)
  have hvb : -1 ≤ victimP N0 ∧ victimP N0 ≤ 100000000 := by decide +kernel
  have hab := fun w' (hb : Below _ _ w') => about_any V N0 4 3 0 w' (hT.below hb) rfl (by omega) hvb
  rw [show aboutP N0 4 3 0 = 0 by rfl] at hab
  have hmf : ∀ (fn : Fn) (first cap : Array Value) (w : World), (Instr.makeFunc fn first cap).run Try.prog w = .ok (.func fn first cap) w := fun _ _ _ _ => rfl
  rw [n0_row] at hb0 b0 r0 hre hab ⊢
  simp only [n0_row] at hnx hab hix
  clear h hT hvb
  go_enter Try.func10, Try.ntmps10
  go_upto_region 1 with fail
  generalize (w.alloc (.cells #[.int .i64 4, .int .i64 2, .int .i64 1, .slice V.pd V.nd V.cd, .slice V.ph V.nh V.ch, .int .i64 (-1), .int .i64 0, .int .i64 0, .slice V.pl V.nl V.cl] 28)).alloc (.cells #[.int .i64 0, .int .i64 0] 30) = W0 at *
  have y0 := b0.cell' (i := 0) rfl; have y1 := b0.cell' (i := 1) rfl; have y2 := b0.cell' (i := 2) rfl; have y3 := b0.cell' (i := 3) rfl; have y4 := b0.cell' (i := 4) rfl; have y5 := b0.cell' (i := 5) rfl; have y6 := b0.cell' (i := 6) rfl; have y7 := b0.cell' (i := 7) rfl; have y8 := b0.cell' (i := 8) rfl
  go_upto_region 4 with (go_at_call 27; refine hre.mono ?_; rintro e w1 ⟨rfl, k1⟩)
  have b1 := b0.kept k1
  have r1 := r0.kept k1
  clear y0 y1 y2 y3 y4 y5 y6 y7 y8 hre
  have y0 := b1.cell' (i := 0) rfl; have y1 := b1.cell' (i := 1) rfl; have y2 := b1.cell' (i := 2) rfl; have y3 := b1.cell' (i := 3) rfl; have y4 := b1.cell' (i := 4) rfl; have y5 := b1.cell' (i := 5) rfl; have y6 := b1.cell' (i := 6) rfl; have y7 := b1.cell' (i := 7) rfl; have y8 := b1.cell' (i := 8) rfl
  go_upto_region 7 with (go_at_call 28; refine (hnx _).mono ?_; rintro e w2 ⟨rfl, k2⟩)
  have b2 := b1.kept k2
  have r2 := r1.kept k2
  clear y0 y1 y2 y3 y4 y5 y6 y7 y8 hnx
  have y0 := b2.cell' (i := 0) rfl; have y1 := b2.cell' (i := 1) rfl; have y2 := b2.cell' (i := 2) rfl; have y3 := b2.cell' (i := 3) rfl; have y4 := b2.cell' (i := 4) rfl; have y5 := b2.cell' (i := 5) rfl; have y6 := b2.cell' (i := 6) rfl; have y7 := b2.cell' (i := 7) rfl; have y8 := b2.cell' (i := 8) rfl
  have c3 := (b2.alloc (.cells #[.int .i64 2, .int .i64 4, .int .i64 9, .int .i64 8] 3)).cell' (i := 0) rfl
  go_upto_region 10 with fail
  have k3 := bt (below_alloc w2 (.cells #[.int .i64 2, .int .i64 4, .int .i64 9, .int .i64 8] 3)) (below_alloc (w2.alloc (.cells #[.int .i64 2, .int .i64 4, .int .i64 9, .int .i64 8] 3)) (.cells #[.int .i64 3, .int .i64 5, .int .i64 6, .int .i64 7] 3))
  have f3 := Blk.new' (w2.alloc (.cells #[.int .i64 2, .int .i64 4, .int .i64 9, .int .i64 8] 3)) 3 #[.int .i64 3, .int .i64 5, .int .i64 6, .int .i64 7]
  have b3 := (b2.alloc (.cells #[.int .i64 2, .int .i64 4, .int .i64 9, .int .i64 8] 3)).alloc (.cells #[.int .i64 3, .int .i64 5, .int .i64 6, .int .i64 7] 3)
  have r3 := (r2.alloc (.cells #[.int .i64 2, .int .i64 4, .int .i64 9, .int .i64 8] 3)).alloc (.cells #[.int .i64 3, .int .i64 5, .int .i64 6, .int .i64 7] 3)
  generalize (w2.alloc (.cells #[.int .i64 2, .int .i64 4, .int .i64 9, .int .i64 8] 3)).alloc (.cells #[.int .i64 3, .int .i64 5, .int .i64 6, .int .i64 7] 3) = W3 at *
  rw [World.size_alloc] at f3
  have kb3 := bt (bt k1 k2) k3
  have hix3 := hix W3 w.heap.size (w2.heap.size + 1) kb3 b3 f3
  clear y0 y1 y2 y3 y4 y5 y6 y7 y8 hix c3 b2 r2 b1 r1 b0 r0
  go_upto_region 11 with (go_at_call 29; refine hix3.mono ?_; rintro e w4 ⟨rfl, k4⟩; have f4 := f3.kept k4; have f40 := f4.cell' (i := 0) rfl)
  have b4 := b3.kept k4
  have r4 := r3.kept k4
  have hab4 := hab _ (bt kb3 k4)
  have y0 := b4.cell' (i := 0) rfl; have y1 := b4.cell' (i := 1) rfl; have y2 := b4.cell' (i := 2) rfl; have y3 := b4.cell' (i := 3) rfl; have y4 := b4.cell' (i := 4) rfl; have y5 := b4.cell' (i := 5) rfl; have y6 := b4.cell' (i := 6) rfl; have y7 := b4.cell' (i := 7) rfl; have y8 := b4.cell' (i := 8) rfl
  clear hix3 f40
  go_wp2_with (first | (go_at_call 32; refine hab4.mono ?_; rintro e w5 ⟨rfl, k5⟩; have r5 := r4.kept k5) | (refine wpList_store_blk rfl 30 (.tmp 4) (.tmp 44) rfl (w.heap.size + 1) 0 [.int .i64 3, .int .i64 0] rfl rfl r5 (by simp) (sizeS2 _ _) (one2 _ _) ?_; intro W9 h9 ht9; rw [whole_row (by rfl)] at h9))
  exact ret_stepE Try.results10 rfl h9 rfl rfl ⟨rfl, ht9.below (bt hb0 (bt (bt kb3 k4) k5)) (by omega)⟩
end Go.Proofs.Ythibaefoioeghaa
