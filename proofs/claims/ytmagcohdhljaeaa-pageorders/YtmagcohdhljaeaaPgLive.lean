/-
  What State answers, and the statements' own function live: true, and no old memory turns.
-/
import Derived.Test.YtmagcohdhljaeaaPgDec
namespace Go.Proofs.Ytmagcohdhljaeaa
open Go.RowKit
/-- Decode, whatever the page. -/
theorem decode_any (P : List Nat) (hP : IsP P) (w : World) :
    Calls Try.prog 14 #[.agg (vals P).toArray] w fun e w' => ((decE P ≠ 0 ∧ e = .returned (.tuple #[.agg #[.int .i64 0, .int .i64 0, .int .i64 0, .int .i64 0], .slice none 0 0, .int .i64 (decE P)])) ∨
      (decE P = 0 ∧ ∃ p c, e = .returned (.tuple #[.agg #[.int .i64 (hv0 P), .int .i64 (hv1 P), .int .i64 (hv2 P), .int .i64 (hv3 P)], .slice p 256 c, .int .i64 0]) ∧ In w' p 256 c (P.take 256))) ∧ Below w.heap.size w w' := by
  by_cases hs : stateL P = 0
  · refine (decode_good P hP w hs).mono ?_
    rintro e w' ⟨h, hb⟩
    refine ⟨?_, hb⟩
    rcases h with ⟨h1, rfl⟩ | ⟨h1, h2⟩
    · have e1 : decE P = 30 := by unfold decE; rw [if_pos hs, h1]; rfl
      exact .inl ⟨by rw [e1]; decide, by rw [e1]⟩
    · have e1 : decE P = 0 := by unfold decE; rw [if_pos hs, h1]; rfl
      exact .inr ⟨e1, h2⟩
  · refine (decode_bad P hP w hs).mono ?_
    rintro e w' ⟨rfl, hb⟩
    have e1 : decE P = stateL P := by unfold decE; rw [if_neg hs]
    exact ⟨.inl ⟨by rw [e1]; exact hs, by rw [e1]⟩, hb⟩
set_option maxRecDepth 100000 in
set_option maxHeartbeats 2000000 in
theorem pstate_any (P : List Nat) (hP : IsP P) (w : World) : Calls Try.prog 17 #[.agg (vals P).toArray] w fun e w' => e = .returned (.int .i64 (decE P)) ∧ Below w.heap.size w w' := by
  have b0 := Blk.new w 29 (vals P)
  have hbel := below_alloc w (.cells (vals P).toArray 29)
  go_enter Try.func17, Try.ntmps17
  go_wp2_with (refine wpList_load_mid rfl 29 _ rfl w.heap.size 0 rfl (vals P) _ (b0.page hP.1) Try.underlying29 rfl (sizeP hP.1) ?_)
  refine (decode_any P hP _).mono ?_
  rintro e w1 ⟨⟨_, rfl⟩ | ⟨h0, p, c, rfl, _⟩, hb1⟩
  · have hB := bt hbel hb1
    go_wp2
    go_ret
    exact ⟨rfl, bt hB (below_alloc _ _)⟩
  · have H0 : Hid (decE P = 0) := h0
    clear h0
    have hB := bt hbel hb1
    go_wp2
    go_ret
    exact ⟨by rw [H0.out]; rfl, bt hB (below_alloc _ _)⟩
/-- The page that the document tells of. -/
def liveP : List Nat := encP 2 5 9 9 [97]
theorem live_facts : encE 2 5 9 9 [97] = 0 ∧ liveP.length = 288 ∧ (liveP.drop 256).take 14 = [2, 0, 0, 0, 0, 5, 0, 0, 0, 0, 0, 0, 0, 9] ∧ liveP[0]? = some 97 ∧ decE liveP = 0 ∧ decE (fillP 255) = 10 := by decide +kernel
theorem liveP_isP : IsP liveP := encP_isP _ _ _ _ (by decide) (by decide)
end Go.Proofs.Ytmagcohdhljaeaa
