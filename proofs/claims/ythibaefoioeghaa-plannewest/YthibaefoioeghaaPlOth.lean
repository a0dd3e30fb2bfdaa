/-
  The law's others: no page but those stands elsewhere.
-/
import Derived.Test.YthibaefoioeghaaPlDrop
namespace Go.Proofs.Ythibaefoioeghaa
open Go.RowKit
set_option linter.unusedSimpArgs false in
set_option linter.unusedVariables false in
set_option maxRecDepth 100000 in
set_option maxHeartbeats 8000000 in
theorem others_any (V V2 : TabV) (T U : Tab) (a b : Int) (w : World) (h : TabIn w V T) (h2 : TabIn w V2 U) (hn : V.nh ≤ 100000) (hall : ∀ p : Nat, p < V.nh → ¬ (a ≤ (p : Int) ∧ (p : Int) < b) → whereE T (p : Int) = whereE U (p : Int)) :
    Calls Try.prog 24 #[.agg (tabA V T), .agg (tabA V2 U), .int .i64 a, .int .i64 b] w fun e w' => e = .returned (.bool true) ∧ Below w.heap.size w w' := by
  have hb0 := bt (below_alloc w (.cells (tabA V T) 28)) (below_alloc (w.alloc (.cells (tabA V T) 28)) (.cells (tabA V2 U) 28))
  have b0 := (Blk.new' w 28 (tabA V T)).alloc (.cells (tabA V2 U) 28)
  have c0 := Blk.new' (w.alloc (.cells (tabA V T) 28)) 28 (tabA V2 U)
  rw [World.size_alloc] at c0
  have hT := h.below hb0
  have hU := h2.below hb0
  have hw1 := fun w' (p : Int) (hb : Below _ _ w') => where_any V T p w' (hT.below hb)
  have hw2 := fun w' (p : Int) (hb : Below _ _ w') => where_any V2 U p w' (hU.below hb)
  have HALL : Hid (∀ p : Nat, p < V.nh → ¬ (a ≤ (p : Int) ∧ (p : Int) < b) → whereE T (p : Int) = whereE U (p : Int)) := hall
  unfold tabA at hb0 b0 c0 hw1 hw2 ⊢
  clear hall h h2 hT hU
  have q4 := b0.cell' (i := 4) rfl
  go_enter Try.func24, Try.ntmps24
  go_wp2
  generalize ((w.alloc (.cells #[.int .i64 T.pages, .int .i64 T.logical, .int .i64 T.k, .slice V.pd V.nd V.cd, .slice V.ph V.nh V.ch, .int .i64 T.sp, .int .i64 T.sl, .int .i64 T.su, .slice V.pl V.nl V.cl] 28)).alloc (.cells #[.int .i64 U.pages, .int .i64 U.logical, .int .i64 U.k, .slice V2.pd V2.nd V2.cd, .slice V2.ph V2.nh V2.ch, .int .i64 U.sp, .int .i64 U.sl, .int .i64 U.su, .slice V2.pl V2.nl V2.cl] 28)) = W0 at *
  clear q4
  go_loopw [17] (fun t wr => ∃ k : Nat, k ≤ V.nh ∧ t = .int .i64 (k : Int) ∧ Below W0.heap.size W0 wr) (fun t _ => V.nh - (intOf t).toNat)
  case atStart => exact ⟨0, Nat.zero_le _, rfl, Below.refl _ _⟩
  case round =>
    obtain ⟨k, hk0, rfl, hbr⟩ := hrel
    by_cases hlt : k < V.nh
    · have hki : (k : Int) < (V.nh : Int) := by omega
      by_cases hr1 : a ≤ (k : Int)
      · by_cases hr2 : (k : Int) < b
        · go_wp2
          go_roundw
          case rel => exact ⟨k + 1, by omega, by go_num, hbr⟩
          case measure => simp [intOf]; omega
        · have hin : ¬ (a ≤ (k : Int) ∧ (k : Int) < b) := fun h' => hr2 h'.2
          have hk : whereE T (k : Int) = whereE U (k : Int) := HALL.out k hlt hin
          obtain ⟨pe, hpe⟩ : ∃ pe, whereE U (k : Int) = pe := ⟨_, rfl⟩
          obtain ⟨⟨x, y⟩, o⟩ := pe
          have hwa := hw1 wr k hbr
          have hwb := fun w' (hb : Below W0.heap.size W0 w') => hw2 w' k hb
          rw [hk, hpe] at hwa
          rw [hpe] at hwb
          dsimp only at hwa hwb
          clear hk hpe hin hw1 hw2
          have b1 := b0.below hbr b0.lt
          have c1 := c0.below hbr c0.lt
          have y0 := b1.cell' (i := 0) rfl; have y1 := b1.cell' (i := 1) rfl; have y2 := b1.cell' (i := 2) rfl; have y3 := b1.cell' (i := 3) rfl; have y4 := b1.cell' (i := 4) rfl; have y5 := b1.cell' (i := 5) rfl; have y6 := b1.cell' (i := 6) rfl; have y7 := b1.cell' (i := 7) rfl; have y8 := b1.cell' (i := 8) rfl
          go_upto_region 6 with (go_at_call 23; refine hwa.mono ?_; rintro e w4 ⟨rfl, k4⟩)
          have hb4 := hbr.trans (k4.mono hbr.size)
          have hb5 := bt hb4 (below_alloc w4 (.cells #[.int .i64 x, .int .i64 y] 41))
          have c5 := (c1.kept k4).alloc (.cells #[.int .i64 x, .int .i64 y] 41)
          have f5 := Blk.new' w4 41 #[.int .i64 x, .int .i64 y]
          have z0 := c5.cell' (i := 0) rfl; have z1 := c5.cell' (i := 1) rfl; have z2 := c5.cell' (i := 2) rfl; have z3 := c5.cell' (i := 3) rfl; have z4 := c5.cell' (i := 4) rfl; have z5 := c5.cell' (i := 5) rfl; have z6 := c5.cell' (i := 6) rfl; have z7 := c5.cell' (i := 7) rfl; have z8 := c5.cell' (i := 8) rfl
          have hwb5 := hwb _ hb5
          clear y0 y1 y2 y3 y4 y5 y6 y7 y8 hwa hwb
          go_upto_region 7 with (go_at_call 23; refine hwb5.mono ?_; rintro e w6 ⟨rfl, k6⟩)
          have f6 := (f5.kept k6).alloc (.cells #[.int .i64 x, .int .i64 y] 41)
          have f60 := f6.cell' (i := 0) rfl
          have f61 := f6.cell' (i := 1) rfl
          have hb6 := bt hb5 k6
          clear z0 z1 z2 z3 z4 z5 z6 z7 z8 hwb5
          go_wp2
          go_roundw
          case rel => exact ⟨k + 1, by omega, by go_num, bt hb6 (below_alloc w6 _)⟩
          case measure => simp [intOf]; omega
      · have hin : ¬ (a ≤ (k : Int) ∧ (k : Int) < b) := fun h' => hr1 h'.1
        have hk : whereE T (k : Int) = whereE U (k : Int) := HALL.out k hlt hin
        obtain ⟨pe, hpe⟩ : ∃ pe, whereE U (k : Int) = pe := ⟨_, rfl⟩
        obtain ⟨⟨x, y⟩, o⟩ := pe
        have hwa := hw1 wr k hbr
        have hwb := fun w' (hb : Below W0.heap.size W0 w') => hw2 w' k hb
        rw [hk, hpe] at hwa
        rw [hpe] at hwb
        dsimp only at hwa hwb
        clear hk hpe hin hw1 hw2
        have b1 := b0.below hbr b0.lt
        have c1 := c0.below hbr c0.lt
        have y0 := b1.cell' (i := 0) rfl; have y1 := b1.cell' (i := 1) rfl; have y2 := b1.cell' (i := 2) rfl; have y3 := b1.cell' (i := 3) rfl; have y4 := b1.cell' (i := 4) rfl; have y5 := b1.cell' (i := 5) rfl; have y6 := b1.cell' (i := 6) rfl; have y7 := b1.cell' (i := 7) rfl; have y8 := b1.cell' (i := 8) rfl
        go_upto_region 6 with (go_at_call 23; refine hwa.mono ?_; rintro e w4 ⟨rfl, k4⟩)
        have hb4 := hbr.trans (k4.mono hbr.size)
        have hb5 := bt hb4 (below_alloc w4 (.cells #[.int .i64 x, .int .i64 y] 41))
        have c5 := (c1.kept k4).alloc (.cells #[.int .i64 x, .int .i64 y] 41)
        have f5 := Blk.new' w4 41 #[.int .i64 x, .int .i64 y]
        have z0 := c5.cell' (i := 0) rfl; have z1 := c5.cell' (i := 1) rfl; have z2 := c5.cell' (i := 2) rfl; have z3 := c5.cell' (i := 3) rfl; have z4 := c5.cell' (i := 4) rfl; have z5 := c5.cell' (i := 5) rfl; have z6 := c5.cell' (i := 6) rfl; have z7 := c5.cell' (i := 7) rfl; have z8 := c5.cell' (i := 8) rfl
        have hwb5 := hwb _ hb5
        clear y0 y1 y2 y3 y4 y5 y6 y7 y8 hwa hwb
        go_upto_region 7 with (go_at_call 23; refine hwb5.mono ?_; rintro e w6 ⟨rfl, k6⟩)
        have f6 := (f5.kept k6).alloc (.cells #[.int .i64 x, .int .i64 y] 41)
        have f60 := f6.cell' (i := 0) rfl
        have f61 := f6.cell' (i := 1) rfl
        have hb6 := bt hb5 k6
        clear z0 z1 z2 z3 z4 z5 z6 z7 z8 hwb5
        go_wp2
        go_roundw
        case rel => exact ⟨k + 1, by omega, by go_num, bt hb6 (below_alloc w6 _)⟩
        case measure => simp [intOf]; omega
    · obtain rfl : k = V.nh := by omega
      have hkk : ¬ (V.nh : Int) < (V.nh : Int) := by omega
      go_wp2
      go_ret
      exact ⟨rfl, bt hb0 hbr⟩
end Go.Proofs.Ythibaefoioeghaa
