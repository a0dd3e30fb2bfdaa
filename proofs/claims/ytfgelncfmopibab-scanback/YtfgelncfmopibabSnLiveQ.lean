/-
  SamePlaces of the same places; live.
-/
import Derived.Test.YtfgelncfmopibabSnGreat
namespace Go.Proofs.Ytfgelncfmopibab
open Go.RowKit
theorem live_list : placesOf (newestL 4 8 [⟨7, 1, 1, 5, 3, 3⟩, ⟨9, 0, 2, 5, 4, 4⟩]) = [⟨-1, 0⟩, ⟨-1, 0⟩, ⟨-1, 0⟩, ⟨-1, 0⟩, ⟨-1, 0⟩, ⟨9, 0⟩, ⟨-1, 0⟩, ⟨-1, 0⟩] := by rfl
theorem live_great : greatL [⟨7, 1, 1, 5, 3, 3⟩, ⟨9, 0, 2, 5, 4, 4⟩] = 4 := by rfl
theorem inF_of_blk {w : World} {g : Nat} {l : List Fd} (h : Blk w g 50 (flatF l)) (hl : l.length ≤ 1000000) : InF w (some ⟨g, 0, none⟩) l.length l.length l := by
  refine ⟨rfl, Nat.le_refl _, by unfold maxLen; omega, by omega, fun _ => ⟨g, 0, rfl, h.lt, fun i hi => ?_⟩, fun h => by cases h⟩
  obtain ⟨f0, f1, f2, f3, f4, f5⟩ := flatF_at (l := l) (k := i) hi
  rw [Nat.zero_add]
  exact ⟨h.cell' f0, h.cell' f1, h.cell' f2, h.cell' f3, h.cell' f4, h.cell' f5⟩
theorem inZ_of_blk {w : World} {g : Nat} {l : List Pl} (h : Blk w g 41 (flatZ l)) (hl : l.length ≤ 1000000) : InZ w (some ⟨g, 0, none⟩) l.length l.length l := by
  refine ⟨rfl, Nat.le_refl _, by unfold maxLen; omega, by omega, fun _ => ⟨g, 0, rfl, h.lt, fun i hi => ?_⟩, fun h => by cases h⟩
  obtain ⟨f0, f1⟩ := flatZ_at (l := l) (k := i) hi
  rw [Nat.zero_add]
  exact ⟨h.cell' f0, h.cell' f1⟩
set_option maxHeartbeats 4000000 in
theorem live_any (w : World) : Calls Try.prog 6 #[] w fun e w' => e = .returned (.bool true) ∧ Below w.heap.size w w' := by
  have b0 : Blk (w.alloc (.cells #[.int .i64 7, .int .i64 1, .int .i64 1, .int .i64 5, .int .i64 3, .int .i64 3, .int .i64 9, .int .i64 0, .int .i64 2, .int .i64 5, .int .i64 4, .int .i64 4] 50)) w.heap.size 50 (flatF [⟨7, 1, 1, 5, 3, 3⟩, ⟨9, 0, 2, 5, 4, 4⟩]) := Blk.new' w _ _
  have hb0 := below_alloc w (.cells #[.int .i64 7, .int .i64 1, .int .i64 1, .int .i64 5, .int .i64 3, .int .i64 3, .int .i64 9, .int .i64 0, .int .i64 2, .int .i64 5, .int .i64 4, .int .i64 4] 50)
  have i0 := inF_of_blk b0 (by simp)
  dsimp only [List.length_cons, List.length_nil] at i0
  go_enter Try.func6, Try.ntmps6
  go_wp2_with (first
    | (go_at_call 8; refine (newest_any 4 2 8 _ 2 2 _ _ rfl rfl i0).mono ?_; rintro e w1 ⟨g, rfl, hg, hG, hb1⟩; rw [live_list] at hG; have i1 := i0.below hb1; have c10 := hG.cell' (i := 10) rfl; have c11 := hG.cell' (i := 11) rfl; have c0 := hG.cell' (i := 0) rfl; have c1 := hG.cell' (i := 1) rfl)
    | (go_at_call 17; refine (greatest_any _ 2 2 _ _ i1).mono ?_; rw [live_great]; rintro e w2 ⟨rfl, hb2⟩))
  go_ret
  exact ⟨rfl, bt (bt hb0 hb1) hb2⟩
end Go.Proofs.Ytfgelncfmopibab
