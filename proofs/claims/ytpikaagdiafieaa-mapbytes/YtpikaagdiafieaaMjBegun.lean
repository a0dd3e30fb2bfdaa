/-
  What begun answers: yes.
-/
import Derived.Test.YtpikaagdiafieaaMjApply
namespace Go.Proofs.Ytpikaagdiafieaa
open Go.RowKit
def begS : MS := newMS 16
def begL : List MR := [⟨2, 3, 5⟩, ⟨2, 3, 4⟩]
def begT : MS := ⟨List.replicate 16 false, [0, 0, 0, 5, 0, 0, 0, 0, 0, 0, 0, 0, 0, 0, 0, 0], 0⟩
theorem beg_new : newR 16 = (begS, 0) := by kernel_rfl
theorem beg_apply : applyR begS begL = (begT, 0) := by kernel_rfl
theorem beg_cov1 : coversB begT begS = true := by kernel_rfl
theorem beg_cov2 : coversB begS begT = false := by kernel_rfl
theorem beg_parts : partsI 16 = 1 := by kernel_rfl
theorem beg_in (w : World) : InR (w.alloc (.cells #[.int .i64 2, .int .i64 3, .int .i64 5, .int .i64 2, .int .i64 3, .int .i64 4] 65)) (some ⟨w.heap.size, 0, none⟩) 2 2 begL := by
  have b := Blk.new' w 65 #[.int .i64 2, .int .i64 3, .int .i64 5, .int .i64 2, .int .i64 3, .int .i64 4]
  refine ⟨rfl, Nat.le_refl _, by unfold maxLen; omega, by omega, fun _ => ⟨w.heap.size, 0, rfl, b.lt, fun i hi => ?_⟩, fun h => by cases h⟩
  match i, hi with
  | 0, _ => exact ⟨b.cell' rfl, b.cell' rfl, b.cell' rfl⟩
  | 1, _ => exact ⟨b.cell' rfl, b.cell' rfl, b.cell' rfl⟩
theorem begT_len : begT.wear.length = 16 := rfl
theorem begT_at : eI begT.wear 3 = 5 := rfl
set_option maxHeartbeats 400000 in
theorem begun_raw (begS begT : MS) (begL : List MR) (beg_new : newR 16 = (begS, 0)) (beg_apply : applyR begS begL = (begT, 0)) (beg_cov1 : coversB begT begS = true) (beg_cov2 : coversB begS begT = false) (begT_len : begT.wear.length = 16) (begT_at : eI begT.wear 3 = 5)
    (beg_in : ∀ w : World, InR (w.alloc (.cells #[.int .i64 2, .int .i64 3, .int .i64 5, .int .i64 2, .int .i64 3, .int .i64 4] 65)) (some ⟨w.heap.size, 0, none⟩) 2 2 begL) (w : World) : Calls Try.prog 13 #[] w fun e w' => e = .returned (.bool true) ∧ Below w.heap.size w w' := by
  have HN : Hid (newR 16 = (begS, 0)) := beg_new
  have HAp : Hid (applyR begS begL = (begT, 0)) := beg_apply
  have HC1 : Hid (coversB begT begS = true) := beg_cov1
  have HC2 : Hid (coversB begS begT = false) := beg_cov2
  have HL : Hid (begT.wear.length = 16) := begT_len
  have HE : Hid (eI begT.wear 3 = 5) := begT_at
  clear beg_new beg_apply beg_cov1 beg_cov2 begT_len begT_at
  have hnew := new_any 16 w
  rw [HN.out] at hnew
  go_enter Try.func13, Try.ntmps13
  go_wp2_with (first
    | (go_at_call 9; refine hnew.mono ?_; rintro e w1 ⟨V1, rfl, ho1, hb1⟩; dsimp only; have s1 : Blk (w1.alloc (.cells #[.slice V1.p V1.n V1.c, .slice V1.q V1.m V1.d, .int .i64 begS.seq] 25)) w1.heap.size 25 (SV.cells V1 begS) := Blk.new' w1 25 #[.slice V1.p V1.n V1.c, .slice V1.q V1.m V1.d, .int .i64 begS.seq]; have o1 := ho1.next (below_alloc w1 (.cells #[.slice V1.p V1.n V1.c, .slice V1.q V1.m V1.d, .int .i64 begS.seq] 25)); have hB1 := bt hb1 (below_alloc w1 (.cells #[.slice V1.p V1.n V1.c, .slice V1.q V1.m V1.d, .int .i64 begS.seq] 25)); obtain ⟨x0, x1, x2⟩ := s1.cells3; have hal := below_alloc (w1.alloc (.cells #[.slice V1.p V1.n V1.c, .slice V1.q V1.m V1.d, .int .i64 begS.seq] 25)) (.cells #[.int .i64 2, .int .i64 3, .int .i64 5, .int .i64 2, .int .i64 3, .int .i64 4] 65); have hin := beg_in (w1.alloc (.cells #[.slice V1.p V1.n V1.c, .slice V1.q V1.m V1.d, .int .i64 begS.seq] 25)); rw [World.size_alloc] at hin; clear hnew hb1 ho1)
    | (go_at_call 20; refine (apply_any V1 begS _ 2 2 begL _ (o1.inS.below hal) hin).mono ?_; rw [HAp.out]; rintro e w2 ⟨V2, rfl, ho2, hb2⟩; have s2 := (s1.kept hal).kept hb2; have o2 := (o1.next hal).next hb2; have hB2 := bt (bt hB1 hal) hb2; have hm2 : 16 = V2.m := HL.out.symm.trans ho2.inS.v.len; obtain ⟨p2, n2, c2, q2, m2, d2⟩ := V2; dsimp only at hm2; subst hm2; clear s1 o1 hB1 x0 x1 x2 hin hal hb2; have hal := below_alloc w2 (.cells #[.slice p2 n2 c2, .slice q2 16 d2, .int .i64 begT.seq] 25); have s3 := s2.kept hal; have o3 := o2.next hal; have hB3 := bt hB2 hal; have u3 : Blk (w2.alloc (.cells #[.slice p2 n2 c2, .slice q2 16 d2, .int .i64 begT.seq] 25)) w2.heap.size 25 (SV.cells ⟨p2, n2, c2, q2, 16, d2⟩ begT) := Blk.new' w2 25 #[.slice p2 n2 c2, .slice q2 16 d2, .int .i64 begT.seq]; have q3 := ho2.next hal; obtain ⟨x0, x1, x2⟩ := s3.cells3; obtain ⟨y0, y1, y2⟩ := u3.cells3; obtain ⟨gw, ow, rfl, hgw, hcw⟩ := q3.inS.v.at' (by show 0 < 16; decide); have z3 := hcw 3 (by show 3 < 16; decide); rw [HE.out] at z3; clear hcw hgw s2 o2 hB2; dsimp only)
    | (go_at_call 17; refine (covers_any ⟨p2, n2, c2, some ⟨gw, ow, none⟩, 16, d2⟩ V1 begT begS _ q3.inS o3.inS).mono ?_; rw [HC1.out]; rintro e w4 ⟨rfl, hb4⟩; have s4 := s3.kept hb4; have o4 := o3.next hb4; have u4 := u3.kept hb4; have q4 := q3.next hb4; have hB4 := bt hB3 hb4; obtain ⟨x0, x1, x2⟩ := s4.cells3; obtain ⟨y0, y1, y2⟩ := u4.cells3; clear q3 o3 s3 u3)
    | (go_at_call 17; refine (covers_any V1 ⟨p2, n2, c2, some ⟨gw, ow, none⟩, 16, d2⟩ begS begT _ o4.inS q4.inS).mono ?_; rw [HC2.out]; rintro e w5 ⟨rfl, hb5⟩)
    | (go_at_call 31; refine (parts_any 16 _).mono ?_; rw [beg_parts]; rintro e w' ⟨rfl, hw'⟩; have hw3 := hw'.symm; subst hw3; clear hw'))
  go_ret
  exact ⟨rfl, bt hB4 hb5⟩
theorem begun_any (w : World) : Calls Try.prog 13 #[] w fun e w' => e = .returned (.bool true) ∧ Below w.heap.size w w' :=
  begun_raw begS begT begL beg_new beg_apply beg_cov1 beg_cov2 begT_len begT_at beg_in w
end Go.Proofs.Ytpikaagdiafieaa
