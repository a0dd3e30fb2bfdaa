/-
  The law's live and small.
-/
import Derived.Test.YthibaefoioeghaaPlWant
namespace Go.Proofs.Ythibaefoioeghaa
open Go.RowKit
def N1 : Tab := openT N0 3 0 7
def N2 : Tab := putT N1 1 0
theorem n1_row (V : TabV) : tabA V N1 = #[.int .i64 4, .int .i64 2, .int .i64 1, .slice V.pd V.nd V.cd, .slice V.ph V.nh V.ch, .int .i64 7, .int .i64 0, .int .i64 0, .slice V.pl V.nl V.cl] := rfl
theorem n2_row (V : TabV) : tabA V N2 = #[.int .i64 4, .int .i64 2, .int .i64 1, .slice V.pd V.nd V.cd, .slice V.ph V.nh V.ch, .int .i64 7, .int .i64 0, .int .i64 1, .slice V.pl V.nl V.cl] := rfl
theorem new0 (w : World) : Calls Try.prog 26 #[.int .i64 4, .int .i64 2, .int .i64 1] w fun e w' => ∃ V, e = .returned (.tuple #[.agg #[.int .i64 4, .int .i64 2, .int .i64 1, .slice V.pd V.nd V.cd, .slice V.ph V.nh V.ch, .int .i64 (-1), .int .i64 0, .int .i64 0, .slice V.pl V.nl V.cl], .int .i64 0]) ∧ OwnT w.heap.size w' V N0 [] ∧ Below w.heap.size w w' :=
  (new_ok 4 2 1 8 w (by decide +kernel) rfl).mono (by rintro e w' ⟨V, rfl, ho, -, -, -, k⟩; exact ⟨V, rfl, ho, k⟩)
theorem open0 (V : TabV) (w : World) (h : TabIn w V N0) : Calls Try.prog 12 #[.agg #[.int .i64 4, .int .i64 2, .int .i64 1, .slice V.pd V.nd V.cd, .slice V.ph V.nh V.ch, .int .i64 (-1), .int .i64 0, .int .i64 0, .slice V.pl V.nl V.cl], .agg #[.int .i64 3, .int .i64 0], .int .i64 7] w fun e w' => (∃ V' R', e = .returned (.tuple #[.agg #[.int .i64 4, .int .i64 2, .int .i64 1, .slice V'.pd V'.nd V'.cd, .slice V'.ph V'.nh V'.ch, .int .i64 7, .int .i64 0, .int .i64 0, .slice V'.pl V'.nl V'.cl], .int .i64 0]) ∧ OwnT w.heap.size w' V' N1 R') ∧ Below w.heap.size w w' := by
  have hE : openE N0 3 0 7 = 0 := by decide +kernel
  refine (open_any V N0 3 0 7 w h).mono ?_
  rintro e w' ⟨⟨V', T', R', rfl, hx⟩, k⟩
  obtain ⟨rfl, ho⟩ := hx hE
  rw [hE]
  exact ⟨⟨V', R', rfl, ho⟩, k⟩
theorem put0 (V : TabV) (w : World) (h : TabIn w V N1) : Calls Try.prog 15 #[.agg #[.int .i64 4, .int .i64 2, .int .i64 1, .slice V.pd V.nd V.cd, .slice V.ph V.nh V.ch, .int .i64 7, .int .i64 0, .int .i64 0, .slice V.pl V.nl V.cl], .agg #[.int .i64 1, .int .i64 0], .int .i64 0] w fun e w' => (∃ V' R', e = .returned (.tuple #[.agg #[.int .i64 4, .int .i64 2, .int .i64 1, .slice V'.pd V'.nd V'.cd, .slice V'.ph V'.nh V'.ch, .int .i64 7, .int .i64 0, .int .i64 1, .slice V'.pl V'.nl V'.cl], .agg #[.int .i64 7, .int .i64 0], .int .i64 0]) ∧ OwnT w.heap.size w' V' N2 R') ∧ Below w.heap.size w w' := by
  have hE : putE N1 1 0 = 0 := by decide +kernel
  have hW : whereP N2 4 0 = (7, 0) := by decide +kernel
  refine (put_any V N1 1 0 0 w h).mono ?_
  rintro e w' ⟨⟨V', T', R', x, y, rfl, hx⟩, k⟩
  obtain ⟨rfl, hxy, ho⟩ := hx hE
  have hxy' : (x, y) = ((7, 0) : Int × Int) := hxy.trans hW
  cases hxy'
  rw [hE]
  exact ⟨⟨V', R', rfl, ho⟩, k⟩
theorem where0 (V : TabV) (w : World) (h : TabIn w V N2) : Calls Try.prog 23 #[.agg #[.int .i64 4, .int .i64 2, .int .i64 1, .slice V.pd V.nd V.cd, .slice V.ph V.nh V.ch, .int .i64 7, .int .i64 0, .int .i64 1, .slice V.pl V.nl V.cl], .int .i64 0] w fun e w' => e = .returned (.tuple #[.agg #[.int .i64 7, .int .i64 0], .bool true]) ∧ Below w.heap.size w w' := by
  have hW : whereE N2 0 = ((7, 0), true) := by decide +kernel
  have := where_any V N2 0 w h
  rw [hW] at this
  exact this
theorem want0 (V : TabV) (w : World) (h : TabIn w V N0) : Calls Try.prog 10 #[.agg #[.int .i64 4, .int .i64 2, .int .i64 1, .slice V.pd V.nd V.cd, .slice V.ph V.nh V.ch, .int .i64 (-1), .int .i64 0, .int .i64 0, .slice V.pl V.nl V.cl], .int .i64 0] w fun e w' => e = .returned (.tuple #[.agg #[.int .i64 3, .int .i64 0], .int .i64 0]) ∧ Below w.heap.size w w' := want0_any V w h
set_option linter.unusedSimpArgs false in
set_option linter.unusedVariables false in
set_option maxRecDepth 100000 in
set_option maxHeartbeats 8000000 in
theorem small_any (V : TabV) (T : Tab) (w : World) : Calls Try.prog 8 #[.agg (tabA V T)] w fun e w' => e = .returned (.bool (decide (V.nd ≤ 64) && decide (V.nh ≤ 1024) && decide (V.nl ≤ 12))) ∧ Below w.heap.size w w' := by
  have hb0 := below_alloc w (.cells (tabA V T) 28)
  have b0 := Blk.new' w 28 (tabA V T)
  unfold tabA at hb0 b0 ⊢
  have q3 := b0.cell' (i := 3) rfl
  have q4 := b0.cell' (i := 4) rfl
  have q6 := b0.cell' (i := 8) rfl
  by_cases h1 : V.nd ≤ 64
  · have i1 : (V.nd : Int) ≤ 64 := by omega
    by_cases h2 : V.nh ≤ 1024
    · have i2 : (V.nh : Int) ≤ 1024 := by omega
      by_cases h3 : V.nl ≤ 12
      · have i3 : (V.nl : Int) ≤ 12 := by omega
        go_enter Try.func8, Try.ntmps8
        go_wp2
        go_ret
        exact ⟨by simp [h1, h2, h3], hb0⟩
      · have i3 : ¬ (V.nl : Int) ≤ 12 := by omega
        go_enter Try.func8, Try.ntmps8
        go_wp2
        go_ret
        exact ⟨by simp [h1, h2, h3], hb0⟩
    · have i2 : ¬ (V.nh : Int) ≤ 1024 := by omega
      go_enter Try.func8, Try.ntmps8
      go_wp2
      go_ret
      exact ⟨by simp [h1, h2], hb0⟩
  · have i1 : ¬ (V.nd : Int) ≤ 64 := by omega
    go_enter Try.func8, Try.ntmps8
    go_wp2
    go_ret
    exact ⟨by simp [h1], hb0⟩
set_option linter.unusedSimpArgs false in
set_option linter.unusedVariables false in
set_option maxRecDepth 100000 in
set_option maxHeartbeats 8000000 in
theorem live_any (w : World) : Calls Try.prog 7 #[] w fun e w' => e = .returned (.bool true) ∧ Below w.heap.size w w' := by
  have hnew := new0 w
  go_enter Try.func7, Try.ntmps7
  go_upto_region 2 with (go_at_call 26; refine hnew.mono ?_; rintro e w1 ⟨V, rfl, hown, k1⟩)
  have k2 := bt k1 (below_alloc w1 (.cells #[.int .i64 4, .int .i64 2, .int .i64 1, .slice V.pd V.nd V.cd, .slice V.ph V.nh V.ch, .int .i64 (-1), .int .i64 0, .int .i64 0, .slice V.pl V.nl V.cl] 28))
  have h2 := Blk.new' w1 28 #[.int .i64 4, .int .i64 2, .int .i64 1, .slice V.pd V.nd V.cd, .slice V.ph V.nh V.ch, .int .i64 (-1), .int .i64 0, .int .i64 0, .slice V.pl V.nl V.cl]
  have hT2 := (hown.next (below_alloc w1 (.cells #[.int .i64 4, .int .i64 2, .int .i64 1, .slice V.pd V.nd V.cd, .slice V.ph V.nh V.ch, .int .i64 (-1), .int .i64 0, .int .i64 0, .slice V.pl V.nl V.cl] 28))).inT
  have hg1 := k1.size
  generalize w1.alloc (.cells #[.int .i64 4, .int .i64 2, .int .i64 1, .slice V.pd V.nd V.cd, .slice V.ph V.nh V.ch, .int .i64 (-1), .int .i64 0, .int .i64 0, .slice V.pl V.nl V.cl] 28) = W2 at *
  generalize w1.heap.size = g1 at *
  have hwant := want0 V W2 hT2
  have y0 := h2.cell' (i := 0) rfl; have y1 := h2.cell' (i := 1) rfl; have y2 := h2.cell' (i := 2) rfl; have y3 := h2.cell' (i := 3) rfl; have y4 := h2.cell' (i := 4) rfl; have y5 := h2.cell' (i := 5) rfl; have y6 := h2.cell' (i := 6) rfl; have y7 := h2.cell' (i := 7) rfl; have y8 := h2.cell' (i := 8) rfl
  go_upto_region 3 with (go_at_call 10; refine hwant.mono ?_; rintro e w3 ⟨rfl, k3⟩)
  have k4 := bt k3 (below_alloc w3 (.cells #[.int .i64 3, .int .i64 0] 30))
  have h4 := (h2.kept k3).alloc (.cells #[.int .i64 3, .int .i64 0] 30)
  have s4 := Blk.new' w3 30 #[.int .i64 3, .int .i64 0]
  have hT4 := hT2.below k4
  have hopen := open0 V _ hT4
  generalize w3.alloc (.cells #[.int .i64 3, .int .i64 0] 30) = W4 at *
  generalize w3.heap.size = g3 at *
  clear y0 y1 y2 y3 y4 y5 y6 y7 y8 hwant hT2 hown h2
  have y0 := h4.cell' (i := 0) rfl; have y1 := h4.cell' (i := 1) rfl; have y2 := h4.cell' (i := 2) rfl; have y3 := h4.cell' (i := 3) rfl; have y4 := h4.cell' (i := 4) rfl; have y5 := h4.cell' (i := 5) rfl; have y6 := h4.cell' (i := 6) rfl; have y7 := h4.cell' (i := 7) rfl; have y8 := h4.cell' (i := 8) rfl
  have u0 := s4.cell' (i := 0) rfl
  have u1 := s4.cell' (i := 1) rfl
  go_upto_region 6 with (first | (go_at_call 12; refine hopen.mono ?_; rintro e w5 ⟨⟨V5, R5, rfl, hown5⟩, k5⟩; have h5 := h4.kept k5) | (refine wpList_store_blk rfl 28 (.tmp 1) (.tmp 33) rfl g1 0 (tabC V5 N1) rfl rfl h5 (by exact Nat.le_refl _) (tabSize _ _) (tabOne _ _) ?_; intro W6 h6 ht6; rw [whole_row (by rfl)] at h6))
  have hT6 := (hown5.turnedTab h5 ht6).inT
  have hput := put0 V5 W6 hT6
  have k6 : Below w.heap.size w W6 := ht6.below (bt (bt k2 k4) k5) (by omega)
  clear y0 y1 y2 y3 y4 y5 y6 y7 y8 u0 u1 hopen h4 s4 h5 ht6 hown5 hT4 hT6
  have y0 := h6.cell' (i := 0) rfl; have y1 := h6.cell' (i := 1) rfl; have y2 := h6.cell' (i := 2) rfl; have y3 := h6.cell' (i := 3) rfl; have y4 := h6.cell' (i := 4) rfl; have y5 := h6.cell' (i := 5) rfl; have y6 := h6.cell' (i := 6) rfl; have y7 := h6.cell' (i := 7) rfl; have y8 := h6.cell' (i := 8) rfl
  go_upto_region 7 with (go_at_call 15; refine hput.mono ?_; rintro e w7 ⟨⟨V7, R7, rfl, hown7⟩, k7⟩)
  have k8 := bt (below_alloc w7 (.cells #[.int .i64 4, .int .i64 2, .int .i64 1, .slice V7.pd V7.nd V7.cd, .slice V7.ph V7.nh V7.ch, .int .i64 7, .int .i64 0, .int .i64 1, .slice V7.pl V7.nl V7.cl] 28)) (below_alloc (w7.alloc (.cells #[.int .i64 4, .int .i64 2, .int .i64 1, .slice V7.pd V7.nd V7.cd, .slice V7.ph V7.nh V7.ch, .int .i64 7, .int .i64 0, .int .i64 1, .slice V7.pl V7.nl V7.cl] 28)) (.cells #[.int .i64 7, .int .i64 0] 41))
  have h8 := (Blk.new' w7 28 #[.int .i64 4, .int .i64 2, .int .i64 1, .slice V7.pd V7.nd V7.cd, .slice V7.ph V7.nh V7.ch, .int .i64 7, .int .i64 0, .int .i64 1, .slice V7.pl V7.nl V7.cl]).alloc (.cells #[.int .i64 7, .int .i64 0] 41)
  have p8 := Blk.new' (w7.alloc (.cells #[.int .i64 4, .int .i64 2, .int .i64 1, .slice V7.pd V7.nd V7.cd, .slice V7.ph V7.nh V7.ch, .int .i64 7, .int .i64 0, .int .i64 1, .slice V7.pl V7.nl V7.cl] 28)) 41 #[.int .i64 7, .int .i64 0]
  have hwh := where0 V7 _ (hown7.next k8).inT
  generalize (w7.alloc (.cells #[.int .i64 4, .int .i64 2, .int .i64 1, .slice V7.pd V7.nd V7.cd, .slice V7.ph V7.nh V7.ch, .int .i64 7, .int .i64 0, .int .i64 1, .slice V7.pl V7.nl V7.cl] 28)).alloc (.cells #[.int .i64 7, .int .i64 0] 41) = W8 at *
  rw [World.size_alloc] at p8
  clear y0 y1 y2 y3 y4 y5 y6 y7 y8 hput h6 hown7
  have y0 := h8.cell' (i := 0) rfl; have y1 := h8.cell' (i := 1) rfl; have y2 := h8.cell' (i := 2) rfl; have y3 := h8.cell' (i := 3) rfl; have y4 := h8.cell' (i := 4) rfl; have y5 := h8.cell' (i := 5) rfl; have y6 := h8.cell' (i := 6) rfl; have y7 := h8.cell' (i := 7) rfl; have y8 := h8.cell' (i := 8) rfl
  go_upto_region 8 with (go_at_call 23; refine hwh.mono ?_; rintro e w9 ⟨rfl, k9⟩)
  have p9 := (p8.kept k9).alloc (.cells #[.int .i64 7, .int .i64 0] 41)
  have q0 := p9.cell' (i := 0) rfl
  have q1 := p9.cell' (i := 1) rfl
  have e9 := Blk.new' w9 41 #[.int .i64 7, .int .i64 0]
  have e0 := e9.cell' (i := 0) rfl
  have e1 := e9.cell' (i := 1) rfl
  clear y0 y1 y2 y3 y4 y5 y6 y7 y8 hwh
  go_wp2
  go_ret
  exact ⟨rfl, bt (bt (bt (bt k6 k7) k8) k9) (below_alloc w9 _)⟩
end Go.Proofs.Ythibaefoioeghaa
