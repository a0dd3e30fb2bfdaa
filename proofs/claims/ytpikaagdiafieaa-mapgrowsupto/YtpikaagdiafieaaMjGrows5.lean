/-
  MapGrows, one case of the walk.
-/
import Derived.Test.YtpikaagdiafieaaMjGrowsH
namespace Go.Proofs.Ytpikaagdiafieaa
open Go.RowKit
set_option linter.unusedSimpArgs false in
set_option maxRecDepth 100000 in
set_option maxHeartbeats 16000000 in
set_option linter.unusedVariables false in
theorem grows_5 (V U T : SV) (a b c : MS) (pl : Option Addr) (N c' : Nat) (l : List MR) (w : World) (ha : InS w V a) (hb : InS w U b) (hc : InS w T c) (hl : InR w pl N c' l) (hN : N ≤ 1048576) (hz : ¬ joinE a b = 0) :
    Calls Try.prog 8 #[V.val a, U.val b, T.val c, .slice pl N c'] w fun e w' => e = .returned (.bool true) ∧ Below w.heap.size w w' := by
  have hB := bt (bt (below_alloc w (.cells #[.slice V.p V.n V.c, .slice V.q V.m V.d, .int .i64 a.seq] 25)) (below_alloc _ (.cells #[.slice U.p U.n U.c, .slice U.q U.m U.d, .int .i64 b.seq] 25))) (below_alloc _ (.cells #[.slice T.p T.n T.c, .slice T.q T.m T.d, .int .i64 c.seq] 25))
  have ba : Blk _ _ _ (SV.cells V a) := ((Blk.new' w 25 #[.slice V.p V.n V.c, .slice V.q V.m V.d, .int .i64 a.seq]).alloc (.cells #[.slice U.p U.n U.c, .slice U.q U.m U.d, .int .i64 b.seq] 25)).alloc (.cells #[.slice T.p T.n T.c, .slice T.q T.m T.d, .int .i64 c.seq] 25)
  have bb : Blk _ _ _ (SV.cells U b) := (Blk.new' (w.alloc (.cells #[.slice V.p V.n V.c, .slice V.q V.m V.d, .int .i64 a.seq] 25)) 25 #[.slice U.p U.n U.c, .slice U.q U.m U.d, .int .i64 b.seq]).alloc (.cells #[.slice T.p T.n T.c, .slice T.q T.m T.d, .int .i64 c.seq] 25)
  have bc : Blk _ _ _ (SV.cells T c) := Blk.new' ((w.alloc (.cells #[.slice V.p V.n V.c, .slice V.q V.m V.d, .int .i64 a.seq] 25)).alloc (.cells #[.slice U.p U.n U.c, .slice U.q U.m U.d, .int .i64 b.seq] 25)) 25 #[.slice T.p T.n T.c, .slice T.q T.m T.d, .int .i64 c.seq]
  simp only [World.size_alloc] at bb bc
  have j1 := fun W h1 h2 => join_any V U a b W h1 h2
  have j2 := fun W h1 h2 => join_any U V b a W h1 h2
  rw [joinR_bad hz] at j1
  rw [joinR_bad (by rw [joinE_comm]; exact hz), joinE_comm b a] at j2
  have hz1 : (joinE a b != 0) = true := by rw [bne_iff_ne]; exact hz
  have hq : (joinE a b != joinE a b) = false := by simp
  generalize joinE a b = E at *
  clear hz
  go_enter Try.func8, Try.ntmps8
  go_upto_region 3 with (go_at_call 13; refine (begun_any _).mono ?_; rintro e w1 ⟨rfl, hb1⟩)
  replace hB := bt hB hb1
  replace ba := ba.kept hb1
  replace bb := bb.kept hb1
  replace bc := bc.kept hb1
  clear hb1
  obtain ⟨x00, x01, x02⟩ := ba.cells3
  obtain ⟨x10, x11, x12⟩ := bb.cells3
  go_upto_region 4 with (go_at_call 11; refine (j1 _ (ha.below hB) (hb.below hB)).mono ?_; rintro e u1 ⟨Vk1, rfl, ho, hbx⟩; dsimp only)
  dsimp only at ho
  clear x00 x01 x02 x10 x11 x12
  have hal := below_alloc u1 (.cells #[.slice Vk1.p Vk1.n Vk1.c, .slice Vk1.q Vk1.m Vk1.d, .int .i64 MS.zero.seq] 25)
  have bk1 : Blk (u1.alloc (.cells #[.slice Vk1.p Vk1.n Vk1.c, .slice Vk1.q Vk1.m Vk1.d, .int .i64 MS.zero.seq] 25)) u1.heap.size 25 (SV.cells Vk1 MS.zero) := Blk.new' u1 25 #[.slice Vk1.p Vk1.n Vk1.c, .slice Vk1.q Vk1.m Vk1.d, .int .i64 MS.zero.seq]
  have hbv := bt hbx hal
  replace hB := bt hB hbv
  replace ba := ba.kept hbv
  replace bb := bb.kept hbv
  replace bc := bc.kept hbv
  have ok1 := ho.inS.below hal
  clear hbx hal hbv ho
  generalize hV1 : u1.alloc (.cells #[.slice Vk1.p Vk1.n Vk1.c, .slice Vk1.q Vk1.m Vk1.d, .int .i64 MS.zero.seq] 25) = v1 at *
  clear hV1
  generalize u1.heap.size = gk1 at *
  clear j1
  obtain ⟨x00, x01, x02⟩ := ba.cells3
  obtain ⟨x10, x11, x12⟩ := bb.cells3
  go_upto_region 5 with (go_at_call 11; refine (j2 _ (hb.below hB) (ha.below hB)).mono ?_; rintro e u2 ⟨Vk2, rfl, ho, hbx⟩; dsimp only)
  dsimp only at ho
  clear x00 x01 x02 x10 x11 x12
  have hal := below_alloc u2 (.cells #[.slice Vk2.p Vk2.n Vk2.c, .slice Vk2.q Vk2.m Vk2.d, .int .i64 MS.zero.seq] 25)
  have bk2 : Blk (u2.alloc (.cells #[.slice Vk2.p Vk2.n Vk2.c, .slice Vk2.q Vk2.m Vk2.d, .int .i64 MS.zero.seq] 25)) u2.heap.size 25 (SV.cells Vk2 MS.zero) := Blk.new' u2 25 #[.slice Vk2.p Vk2.n Vk2.c, .slice Vk2.q Vk2.m Vk2.d, .int .i64 MS.zero.seq]
  have hbv := bt hbx hal
  replace hB := bt hB hbv
  replace ba := ba.kept hbv
  replace bb := bb.kept hbv
  replace bc := bc.kept hbv
  replace bk1 := bk1.kept hbv
  replace ok1 := ok1.below hbv
  have ok2 := ho.inS.below hal
  clear hbx hal hbv ho
  generalize hV1 : u2.alloc (.cells #[.slice Vk2.p Vk2.n Vk2.c, .slice Vk2.q Vk2.m Vk2.d, .int .i64 MS.zero.seq] 25) = v2 at *
  clear hV1
  generalize u2.heap.size = gk2 at *
  clear j2
  obtain ⟨x00, x01, x02⟩ := bk1.cells3
  obtain ⟨x10, x11, x12⟩ := bk2.cells3
  go_wp2_with (go_at_call 14; refine (rsame_any Vk1 Vk2 MS.zero MS.zero _ ok1 ok2).mono ?_; rw [sameS_iff.2 rfl]; rintro e f ⟨rfl, hbf⟩)
  go_ret
  exact ⟨rfl, bt hB hbf⟩
end Go.Proofs.Ytpikaagdiafieaa
