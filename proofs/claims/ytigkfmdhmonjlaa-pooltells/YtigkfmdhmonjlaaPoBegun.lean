/-
  What Choose answers; begun is true.
-/
import Derived.Test.YtigkfmdhmonjlaaPoPick
import Derived.Test.YtigkfmdhmonjlaaPoNew
import Derived.Test.YtigkfmdhmonjlaaPoTake
import Derived.Test.YtigkfmdhmonjlaaPoCap
namespace Go.Proofs.Ytigkfmdhmonjlaa
open Go.RowKit
def chooseN (R W : List Int) : Int := bestN (pickK isLess W (allK R W 1))
def chooseB (R W : List Int) : Bool := (pickK isLess W (allK R W 1)).isSome
theorem choose_any (p q : Option Addr) (n c m d : Nat) (R W : List Int) (w : World) (hR : InI w p n c R) (hW : InI w q m d W) :
    Calls Try.prog 27 #[.agg #[.slice p n c, .slice q m d]] w fun e w' => e = .returned (.tuple #[.int .i64 (chooseN R W), .bool (chooseB R W)]) ∧ Below w.heap.size w w' := by
  have hb0 := below_alloc w (.cells #[.slice p n c, .slice q m d] 25)
  have hpk := fun W' (h1 : InI W' p n c R) (h2 : InI W' q m d W) => pickLess_any p q n c m d R W 1 W' h1 h2
  unfold chooseN chooseB
  generalize bestN (pickK isLess W (allK R W 1)) = x at *
  generalize (pickK isLess W (allK R W 1)).isSome = y at *
  go_enter Try.func27, Try.ntmps27
  go_wp2_with (go_at_call 51; refine (hpk _ (hR.below hb0) (hW.below hb0)).mono ?_; rintro e w1 ⟨rfl, hb1⟩)
  go_ret2
  exact ⟨rfl, bt hb0 hb1⟩
theorem begun_new : newS 16 [0] = (6 :: List.replicate 15 1, List.replicate 16 0, 0) := by decide
theorem begun_choose : chooseN (6 :: List.replicate 15 1) (List.replicate 16 0) = 1 ∧ chooseB (6 :: List.replicate 15 1) (List.replicate 16 0) = true := by decide +kernel
theorem begun_take : takeS (6 :: List.replicate 15 1) (List.replicate 16 0) 1 2 = (6 :: 2 :: List.replicate 14 1, List.replicate 16 0, 0) := by decide
theorem begun_choose2 : chooseN (6 :: 2 :: List.replicate 14 1) (List.replicate 16 0) = 2 ∧ chooseB (6 :: 2 :: List.replicate 14 1) (List.replicate 16 0) = true := by decide +kernel
theorem begun_cap : capN 16 4 1 2 2 = 6 ∧ capE 16 4 1 2 2 = 0 := by decide
theorem in_lit1 (W : World) (z : Int) : InI (W.alloc (.cells #[.int .i64 z] 3)) (some ⟨W.heap.size, 0, none⟩) 1 1 [z] := by
  have b := Blk.new' W 3 #[.int .i64 z]
  refine ⟨rfl, Nat.le_refl _, by unfold maxLen; omega, by omega, fun _ => ⟨W.heap.size, 0, rfl, b.lt, fun i hi => ?_⟩, fun h => by cases h⟩
  obtain rfl : i = 0 := Nat.lt_one_iff.1 hi
  exact b.cell' rfl
set_option linter.unusedSimpArgs false in
set_option maxHeartbeats 1000000 in
theorem begun_any (w : World) : Calls Try.prog 13 #[] w fun e w' => e = .returned (.bool true) ∧ Below w.heap.size w w' := by
  have hb0 := below_alloc w (.cells #[.int .i64 0] 3)
  have hin0 := in_lit1 w 0
  have hnw := fun W' h => new_any 16 (some ⟨w.heap.size, 0, none⟩) 1 1 [0] W' h
  rw [begun_new] at hnw
  go_enter Try.func13, Try.ntmps13
  go_upto_region 2 with (go_at_call 9; refine (hnw _ hin0).mono ?_; rintro e w1 ⟨p1, n1, c1, q1, m1, d1, rfl, hnp, hb1⟩)
  have b1 := Blk.new' w1 25 #[.slice p1 n1 c1, .slice q1 m1 d1]
  have hB1 := bt (bt hb0 hb1) (below_alloc w1 (.cells #[.slice p1 n1 c1, .slice q1 m1 d1] 25))
  have hnp1 := hnp.next (below_alloc w1 (.cells #[.slice p1 n1 c1, .slice q1 m1 d1] 25))
  clear hb0 hb1 hin0 hnw hnp
  generalize w1.alloc (.cells #[.slice p1 n1 c1, .slice q1 m1 d1] 25) = V1 at *
  generalize w1.heap.size = g1 at *
  try dsimp only at hnp1
  have hch := choose_any p1 q1 n1 c1 m1 d1 _ _ V1 hnp1.inR hnp1.inW
  rw [begun_choose.1, begun_choose.2] at hch
  have k0 := b1.cell' (i := 0) rfl
  have k1 := b1.cell' (i := 1) rfl
  go_upto_region 3 with (go_at_call 27; refine hch.mono ?_; rintro e w2 ⟨rfl, hb2⟩)
  clear hch k0 k1
  replace hB1 := bt hB1 hb2
  replace b1 := b1.kept hb2
  replace hnp1 := hnp1.next hb2
  clear hb2
  have htk := take_any p1 q1 n1 c1 m1 d1 _ _ 1 2 w2 hnp1.inR hnp1.inW
  rw [begun_take] at htk
  have k0 := b1.cell' (i := 0) rfl
  have k1 := b1.cell' (i := 1) rfl
  go_upto_region 4 with (go_at_call 17; refine htk.mono ?_; rintro e w3 ⟨p2, n2, c2, q2, m2, d2, rfl, hnp, hb3⟩)
  have b2 := Blk.new' w3 25 #[.slice p2 n2 c2, .slice q2 m2 d2]
  replace hB1 := bt (bt hB1 hb3) (below_alloc w3 (.cells #[.slice p2 n2 c2, .slice q2 m2 d2] 25))
  have hnp2 := hnp.next (below_alloc w3 (.cells #[.slice p2 n2 c2, .slice q2 m2 d2] 25))
  clear htk k0 k1 hnp hb3 b1 hnp1
  generalize w3.alloc (.cells #[.slice p2 n2 c2, .slice q2 m2 d2] 25) = V3 at *
  generalize w3.heap.size = g3 at *
  try dsimp only at hnp2
  have hch := choose_any p2 q2 n2 c2 m2 d2 _ _ V3 hnp2.inR hnp2.inW
  rw [begun_choose2.1, begun_choose2.2] at hch
  have k0 := b2.cell' (i := 0) rfl
  have k1 := b2.cell' (i := 1) rfl
  go_upto_region 5 with (go_at_call 27; refine hch.mono ?_; rintro e w4 ⟨rfl, hb4⟩)
  clear hch k0 k1 hnp2 b2
  replace hB1 := bt hB1 hb4
  have hcp := cap_any 16 4 1 2 2 w4
  rw [begun_cap.1, begun_cap.2] at hcp
  go_wp2_with (go_at_call 11; refine hcp.mono ?_; rintro e w5 ⟨rfl, hb5⟩)
  go_ret
  exact ⟨rfl, bt hB1 hb5⟩
end Go.Proofs.Ytigkfmdhmonjlaa
