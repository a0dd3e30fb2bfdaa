/-
  MapGrows, one case of the walk.
-/
import Derived.Test.YtpikaagdiafieaaMjGrowsH
namespace Go.Proofs.Ytpikaagdiafieaa
open Go.RowKit
set_option linter.unusedSimpArgs false in
set_option maxRecDepth 100000 in
set_option maxHeartbeats 16000000 in
set_option linter.unusedVariables false in
theorem grows_2 (V U T : SV) (a b c : MS) (pl : Option Addr) (N c' : Nat) (l : List MR) (w : World) (ha : InS w V a) (hb : InS w U b) (hc : InS w T c) (hl : InR w pl N c' l) (hN : N ≤ 1048576) (hz : joinE a b = 0) (hz4 : joinE b c = 0) (he : ¬ (applyR a l).2 = 0) :
    Calls Try.prog 8 #[V.val a, U.val b, T.val c, .slice pl N c'] w fun e w' => e = .returned (.bool true) ∧ Below w.heap.size w w' := by
  have hB := bt (bt (below_alloc w (.cells #[.slice V.p V.n V.c, .slice V.q V.m V.d, .int .i64 a.seq] 25)) (below_alloc _ (.cells #[.slice U.p U.n U.c, .slice U.q U.m U.d, .int .i64 b.seq] 25))) (below_alloc _ (.cells #[.slice T.p T.n T.c, .slice T.q T.m T.d, .int .i64 c.seq] 25))
  have ba : Blk _ _ _ (SV.cells V a) := ((Blk.new' w 25 #[.slice V.p V.n V.c, .slice V.q V.m V.d, .int .i64 a.seq]).alloc (.cells #[.slice U.p U.n U.c, .slice U.q U.m U.d, .int .i64 b.seq] 25)).alloc (.cells #[.slice T.p T.n T.c, .slice T.q T.m T.d, .int .i64 c.seq] 25)
  have bb : Blk _ _ _ (SV.cells U b) := (Blk.new' (w.alloc (.cells #[.slice V.p V.n V.c, .slice V.q V.m V.d, .int .i64 a.seq] 25)) 25 #[.slice U.p U.n U.c, .slice U.q U.m U.d, .int .i64 b.seq]).alloc (.cells #[.slice T.p T.n T.c, .slice T.q T.m T.d, .int .i64 c.seq] 25)
  have bc : Blk _ _ _ (SV.cells T c) := Blk.new' ((w.alloc (.cells #[.slice V.p V.n V.c, .slice V.q V.m V.d, .int .i64 a.seq] 25)).alloc (.cells #[.slice U.p U.n U.c, .slice U.q U.m U.d, .int .i64 b.seq] 25)) 25 #[.slice T.p T.n T.c, .slice T.q T.m T.d, .int .i64 c.seq]
  simp only [World.size_alloc] at bb bc
  have eAB : joinR a b = (joinMS a b, 0) := by unfold joinR; rw [hz]; rfl
  have eBA : joinR b a = (joinMS a b, 0) := by unfold joinR; rw [joinE_comm b a, hz, join_comm hz]; rfl
  obtain ⟨hoa, hob, hlab⟩ := joinE_iff.1 hz
  have e3 : joinR (joinMS a b) a = (joinMS a b, 0) := by unfold joinR; rw [join_e1 hz hoa rfl, join_self hz]; rfl
  have j1 := fun W h1 h2 => join_any V U a b W h1 h2
  have j2 := fun W h1 h2 => join_any U V b a W h1 h2
  have j3 := fun X W h1 h2 => join_any X V (joinMS a b) a W h1 h2
  have c1 := fun X W h1 h2 => covers_any X V (joinMS a b) a W h1 h2
  have c2 := fun X W h1 h2 => covers_any X U (joinMS a b) b W h1 h2
  have j4 := fun W h1 h2 => join_any U T b c W h1 h2
  have ap := fun W h1 h2 => apply_any V a pl N c' l W h1 h2
  rw [eAB] at j1
  rw [eBA] at j2
  rw [e3] at j3
  rw [(covers_join hz).1] at c1
  rw [(covers_join hz).2] at c2
  have e4 : joinR b c = (joinMS b c, 0) := by unfold joinR; rw [hz4]; rfl
  obtain ⟨-, hoc, hlbc⟩ := joinE_iff.1 hz4
  have e5 : joinR (joinMS a b) c = (joinMS (joinMS a b) c, 0) := by unfold joinR; rw [join_e1 hz hoc (by omega)]; rfl
  have e6 : joinR a (joinMS b c) = (joinMS (joinMS a b) c, 0) := by unfold joinR; rw [joinE_iff.2 ⟨hoa, join_ok hz4, by rw [(joinMS_lens b c).1]; exact hlab⟩, join_assoc hz hz4]; rfl
  have j5 := fun X W h1 h2 => join_any X T (joinMS a b) c W h1 h2
  have j6 := fun X W h1 h2 => join_any V X a (joinMS b c) W h1 h2
  rw [e4] at j4
  rw [e5] at j5
  rw [e6] at j6
  clear e4 e5 e6
  generalize joinMS (joinMS a b) c = ABC at *
  generalize joinMS b c = BC at *
  clear hz4 hoc hlbc
  clear eAB eBA e3 hlab hoa hob hz
  generalize joinMS a b = AB at *
  have e7 : applyR a l = (MS.zero, (applyR a l).2) := applyR_zero he
  rw [e7] at ap
  have hz7 : ((applyR a l).2 != 0) = true := by rw [bne_iff_ne]; exact he
  clear e7 he
  generalize (applyR a l).2 = E7 at *
  go_enter Try.func8, Try.ntmps8
  go_upto_region 3 with (go_at_call 13; refine (begun_any _).mono ?_; rintro e w1 ⟨rfl, hb1⟩)
  replace hB := bt hB hb1
  replace ba := ba.kept hb1
  replace bb := bb.kept hb1
  replace bc := bc.kept hb1
  clear hb1
  obtain ⟨x00, x01, x02⟩ := ba.cells3
  obtain ⟨x10, x11, x12⟩ := bb.cells3
  go_upto_region 4 with (go_at_call 11; refine (j1 _ (ha.below hB) (hb.below hB)).mono ?_; rintro e u1 ⟨Vk1, rfl, ho, hbx⟩; dsimp only)
  dsimp only at ho
  clear x00 x01 x02 x10 x11 x12
  have hal := below_alloc u1 (.cells #[.slice Vk1.p Vk1.n Vk1.c, .slice Vk1.q Vk1.m Vk1.d, .int .i64 AB.seq] 25)
  have bk1 : Blk (u1.alloc (.cells #[.slice Vk1.p Vk1.n Vk1.c, .slice Vk1.q Vk1.m Vk1.d, .int .i64 AB.seq] 25)) u1.heap.size 25 (SV.cells Vk1 AB) := Blk.new' u1 25 #[.slice Vk1.p Vk1.n Vk1.c, .slice Vk1.q Vk1.m Vk1.d, .int .i64 AB.seq]
  have hbv := bt hbx hal
  replace hB := bt hB hbv
  replace ba := ba.kept hbv
  replace bb := bb.kept hbv
  replace bc := bc.kept hbv
  have ok1 := ho.inS.below hal
  clear hbx hal hbv ho
  generalize hV1 : u1.alloc (.cells #[.slice Vk1.p Vk1.n Vk1.c, .slice Vk1.q Vk1.m Vk1.d, .int .i64 AB.seq] 25) = v1 at *
  clear hV1
  generalize u1.heap.size = gk1 at *
  clear j1
  obtain ⟨x00, x01, x02⟩ := ba.cells3
  obtain ⟨x10, x11, x12⟩ := bb.cells3
  go_upto_region 5 with (go_at_call 11; refine (j2 _ (hb.below hB) (ha.below hB)).mono ?_; rintro e u2 ⟨Vk2, rfl, ho, hbx⟩; dsimp only)
  dsimp only at ho
  clear x00 x01 x02 x10 x11 x12
  have hal := below_alloc u2 (.cells #[.slice Vk2.p Vk2.n Vk2.c, .slice Vk2.q Vk2.m Vk2.d, .int .i64 AB.seq] 25)
  have bk2 : Blk (u2.alloc (.cells #[.slice Vk2.p Vk2.n Vk2.c, .slice Vk2.q Vk2.m Vk2.d, .int .i64 AB.seq] 25)) u2.heap.size 25 (SV.cells Vk2 AB) := Blk.new' u2 25 #[.slice Vk2.p Vk2.n Vk2.c, .slice Vk2.q Vk2.m Vk2.d, .int .i64 AB.seq]
  have hbv := bt hbx hal
  replace hB := bt hB hbv
  replace ba := ba.kept hbv
  replace bb := bb.kept hbv
  replace bc := bc.kept hbv
  replace bk1 := bk1.kept hbv
  replace ok1 := ok1.below hbv
  have ok2 := ho.inS.below hal
  clear hbx hal hbv ho
  generalize hV1 : u2.alloc (.cells #[.slice Vk2.p Vk2.n Vk2.c, .slice Vk2.q Vk2.m Vk2.d, .int .i64 AB.seq] 25) = v2 at *
  clear hV1
  generalize u2.heap.size = gk2 at *
  clear j2
  obtain ⟨x00, x01, x02⟩ := bk1.cells3
  obtain ⟨x10, x11, x12⟩ := bk2.cells3
  go_upto_region 9 with (first | (go_at_call 14; refine (rsame_any Vk1 Vk2 AB AB _ ok1 ok2).mono ?_; rw [sameS_iff.2 rfl]; rintro e f3_0 ⟨rfl, hbf⟩; replace hB := bt hB hbf; replace ba := ba.kept hbf; replace bb := bb.kept hbf; replace bc := bc.kept hbf; replace bk1 := bk1.kept hbf; replace bk2 := bk2.kept hbf; replace ok1 := ok1.below hbf; replace ok2 := ok2.below hbf; clear hbf ; obtain ⟨x00, x01, x02⟩ := bk1.cells3; obtain ⟨x10, x11, x12⟩ := bk2.cells3))
  clear x00 x01 x02 x10 x11 x12
  obtain ⟨x00, x01, x02⟩ := bk1.cells3
  obtain ⟨x10, x11, x12⟩ := ba.cells3
  go_upto_region 10 with (go_at_call 11; refine (j3 Vk1 _ ok1 (ha.below hB)).mono ?_; rintro e u4 ⟨Vk3, rfl, ho, hbx⟩; dsimp only)
  dsimp only at ho
  clear x00 x01 x02 x10 x11 x12
  have hal := below_alloc u4 (.cells #[.slice Vk3.p Vk3.n Vk3.c, .slice Vk3.q Vk3.m Vk3.d, .int .i64 AB.seq] 25)
  have bk3 : Blk (u4.alloc (.cells #[.slice Vk3.p Vk3.n Vk3.c, .slice Vk3.q Vk3.m Vk3.d, .int .i64 AB.seq] 25)) u4.heap.size 25 (SV.cells Vk3 AB) := Blk.new' u4 25 #[.slice Vk3.p Vk3.n Vk3.c, .slice Vk3.q Vk3.m Vk3.d, .int .i64 AB.seq]
  have hbv := bt hbx hal
  replace hB := bt hB hbv
  replace ba := ba.kept hbv
  replace bb := bb.kept hbv
  replace bc := bc.kept hbv
  replace bk1 := bk1.kept hbv
  replace bk2 := bk2.kept hbv
  replace ok1 := ok1.below hbv
  replace ok2 := ok2.below hbv
  have ok3 := ho.inS.below hal
  clear hbx hal hbv ho
  generalize hV1 : u4.alloc (.cells #[.slice Vk3.p Vk3.n Vk3.c, .slice Vk3.q Vk3.m Vk3.d, .int .i64 AB.seq] 25) = v4 at *
  clear hV1
  generalize u4.heap.size = gk3 at *
  clear j3
  obtain ⟨x00, x01, x02⟩ := bk3.cells3
  obtain ⟨x10, x11, x12⟩ := bk1.cells3
  obtain ⟨x20, x21, x22⟩ := ba.cells3
  obtain ⟨x30, x31, x32⟩ := bb.cells3
  go_upto_region 12 with (first | (go_at_call 14; refine (rsame_any Vk3 Vk1 AB AB _ ok3 ok1).mono ?_; rw [sameS_iff.2 rfl]; rintro e f5_0 ⟨rfl, hbf⟩; replace hB := bt hB hbf; replace ba := ba.kept hbf; replace bb := bb.kept hbf; replace bc := bc.kept hbf; replace bk1 := bk1.kept hbf; replace bk2 := bk2.kept hbf; replace bk3 := bk3.kept hbf; replace ok1 := ok1.below hbf; replace ok2 := ok2.below hbf; replace ok3 := ok3.below hbf; clear hbf ; obtain ⟨x00, x01, x02⟩ := bk3.cells3; obtain ⟨x10, x11, x12⟩ := bk1.cells3; obtain ⟨x20, x21, x22⟩ := ba.cells3; obtain ⟨x30, x31, x32⟩ := bb.cells3) | (go_at_call 17; refine (c1 Vk1 _ ok1 (ha.below hB)).mono ?_; rintro e f5_1 ⟨rfl, hbf⟩; replace hB := bt hB hbf; replace ba := ba.kept hbf; replace bb := bb.kept hbf; replace bc := bc.kept hbf; replace bk1 := bk1.kept hbf; replace bk2 := bk2.kept hbf; replace bk3 := bk3.kept hbf; replace ok1 := ok1.below hbf; replace ok2 := ok2.below hbf; replace ok3 := ok3.below hbf; clear hbf c1; obtain ⟨x00, x01, x02⟩ := bk3.cells3; obtain ⟨x10, x11, x12⟩ := bk1.cells3; obtain ⟨x20, x21, x22⟩ := ba.cells3; obtain ⟨x30, x31, x32⟩ := bb.cells3) | (go_at_call 17; refine (c2 Vk1 _ ok1 (hb.below hB)).mono ?_; rintro e f5_2 ⟨rfl, hbf⟩; replace hB := bt hB hbf; replace ba := ba.kept hbf; replace bb := bb.kept hbf; replace bc := bc.kept hbf; replace bk1 := bk1.kept hbf; replace bk2 := bk2.kept hbf; replace bk3 := bk3.kept hbf; replace ok1 := ok1.below hbf; replace ok2 := ok2.below hbf; replace ok3 := ok3.below hbf; clear hbf c2; obtain ⟨x00, x01, x02⟩ := bk3.cells3; obtain ⟨x10, x11, x12⟩ := bk1.cells3; obtain ⟨x20, x21, x22⟩ := ba.cells3; obtain ⟨x30, x31, x32⟩ := bb.cells3))
  clear x00 x01 x02 x10 x11 x12 x20 x21 x22 x30 x31 x32
  obtain ⟨x00, x01, x02⟩ := bb.cells3
  obtain ⟨x10, x11, x12⟩ := bc.cells3
  go_upto_region 14 with (go_at_call 11; refine (j4 _ (hb.below hB) (hc.below hB)).mono ?_; rintro e u6 ⟨Vk4, rfl, ho, hbx⟩; dsimp only)
  dsimp only at ho
  clear x00 x01 x02 x10 x11 x12
  have hal := below_alloc u6 (.cells #[.slice Vk4.p Vk4.n Vk4.c, .slice Vk4.q Vk4.m Vk4.d, .int .i64 BC.seq] 25)
  have bk4 : Blk (u6.alloc (.cells #[.slice Vk4.p Vk4.n Vk4.c, .slice Vk4.q Vk4.m Vk4.d, .int .i64 BC.seq] 25)) u6.heap.size 25 (SV.cells Vk4 BC) := Blk.new' u6 25 #[.slice Vk4.p Vk4.n Vk4.c, .slice Vk4.q Vk4.m Vk4.d, .int .i64 BC.seq]
  have hbv := bt hbx hal
  replace hB := bt hB hbv
  replace ba := ba.kept hbv
  replace bb := bb.kept hbv
  replace bc := bc.kept hbv
  replace bk1 := bk1.kept hbv
  replace bk2 := bk2.kept hbv
  replace bk3 := bk3.kept hbv
  replace ok1 := ok1.below hbv
  replace ok2 := ok2.below hbv
  replace ok3 := ok3.below hbv
  have ok4 := ho.inS.below hal
  clear hbx hal hbv ho
  generalize hV1 : u6.alloc (.cells #[.slice Vk4.p Vk4.n Vk4.c, .slice Vk4.q Vk4.m Vk4.d, .int .i64 BC.seq] 25) = v6 at *
  clear hV1
  generalize u6.heap.size = gk4 at *
  clear j4
  obtain ⟨x00, x01, x02⟩ := bk1.cells3
  obtain ⟨x10, x11, x12⟩ := bc.cells3
  go_upto_region 15 with (go_at_call 11; refine (j5 Vk1 _ ok1 (hc.below hB)).mono ?_; rintro e u7 ⟨Vk5, rfl, ho, hbx⟩; dsimp only)
  dsimp only at ho
  clear x00 x01 x02 x10 x11 x12
  have hal := below_alloc u7 (.cells #[.slice Vk5.p Vk5.n Vk5.c, .slice Vk5.q Vk5.m Vk5.d, .int .i64 ABC.seq] 25)
  have bk5 : Blk (u7.alloc (.cells #[.slice Vk5.p Vk5.n Vk5.c, .slice Vk5.q Vk5.m Vk5.d, .int .i64 ABC.seq] 25)) u7.heap.size 25 (SV.cells Vk5 ABC) := Blk.new' u7 25 #[.slice Vk5.p Vk5.n Vk5.c, .slice Vk5.q Vk5.m Vk5.d, .int .i64 ABC.seq]
  have hbv := bt hbx hal
  replace hB := bt hB hbv
  replace ba := ba.kept hbv
  replace bb := bb.kept hbv
  replace bc := bc.kept hbv
  replace bk1 := bk1.kept hbv
  replace bk2 := bk2.kept hbv
  replace bk3 := bk3.kept hbv
  replace bk4 := bk4.kept hbv
  replace ok1 := ok1.below hbv
  replace ok2 := ok2.below hbv
  replace ok3 := ok3.below hbv
  replace ok4 := ok4.below hbv
  have ok5 := ho.inS.below hal
  clear hbx hal hbv ho
  generalize hV1 : u7.alloc (.cells #[.slice Vk5.p Vk5.n Vk5.c, .slice Vk5.q Vk5.m Vk5.d, .int .i64 ABC.seq] 25) = v7 at *
  clear hV1
  generalize u7.heap.size = gk5 at *
  clear j5
  obtain ⟨x00, x01, x02⟩ := ba.cells3
  obtain ⟨x10, x11, x12⟩ := bk4.cells3
  go_upto_region 16 with (go_at_call 11; refine (j6 Vk4 _ (ha.below hB) ok4).mono ?_; rintro e u8 ⟨Vk6, rfl, ho, hbx⟩; dsimp only)
  dsimp only at ho
  clear x00 x01 x02 x10 x11 x12
  have hal := below_alloc u8 (.cells #[.slice Vk6.p Vk6.n Vk6.c, .slice Vk6.q Vk6.m Vk6.d, .int .i64 ABC.seq] 25)
  have bk6 : Blk (u8.alloc (.cells #[.slice Vk6.p Vk6.n Vk6.c, .slice Vk6.q Vk6.m Vk6.d, .int .i64 ABC.seq] 25)) u8.heap.size 25 (SV.cells Vk6 ABC) := Blk.new' u8 25 #[.slice Vk6.p Vk6.n Vk6.c, .slice Vk6.q Vk6.m Vk6.d, .int .i64 ABC.seq]
  have hbv := bt hbx hal
  replace hB := bt hB hbv
  replace ba := ba.kept hbv
  replace bb := bb.kept hbv
  replace bc := bc.kept hbv
  replace bk1 := bk1.kept hbv
  replace bk2 := bk2.kept hbv
  replace bk3 := bk3.kept hbv
  replace bk4 := bk4.kept hbv
  replace bk5 := bk5.kept hbv
  replace ok1 := ok1.below hbv
  replace ok2 := ok2.below hbv
  replace ok3 := ok3.below hbv
  replace ok4 := ok4.below hbv
  replace ok5 := ok5.below hbv
  have ok6 := ho.inS.below hal
  clear hbx hal hbv ho
  generalize hV1 : u8.alloc (.cells #[.slice Vk6.p Vk6.n Vk6.c, .slice Vk6.q Vk6.m Vk6.d, .int .i64 ABC.seq] 25) = v8 at *
  clear hV1
  generalize u8.heap.size = gk6 at *
  clear j6
  obtain ⟨x00, x01, x02⟩ := bk5.cells3
  obtain ⟨x10, x11, x12⟩ := bk6.cells3
  go_upto_region 18 with (first | (go_at_call 14; refine (rsame_any Vk5 Vk6 ABC ABC _ ok5 ok6).mono ?_; rw [sameS_iff.2 rfl]; rintro e f9_0 ⟨rfl, hbf⟩; replace hB := bt hB hbf; replace ba := ba.kept hbf; replace bb := bb.kept hbf; replace bc := bc.kept hbf; replace bk1 := bk1.kept hbf; replace bk2 := bk2.kept hbf; replace bk3 := bk3.kept hbf; replace bk4 := bk4.kept hbf; replace bk5 := bk5.kept hbf; replace bk6 := bk6.kept hbf; replace ok1 := ok1.below hbf; replace ok2 := ok2.below hbf; replace ok3 := ok3.below hbf; replace ok4 := ok4.below hbf; replace ok5 := ok5.below hbf; replace ok6 := ok6.below hbf; clear hbf ; obtain ⟨x00, x01, x02⟩ := bk5.cells3; obtain ⟨x10, x11, x12⟩ := bk6.cells3))
  clear x00 x01 x02 x10 x11 x12
  obtain ⟨x00, x01, x02⟩ := ba.cells3
  go_upto_region 19 with (go_at_call 20; refine (ap _ (ha.below hB) (hl.below hB)).mono ?_; rintro e u10 ⟨Vk7, rfl, ho, hbx⟩; dsimp only)
  dsimp only at ho
  clear x00 x01 x02
  have hal := below_alloc u10 (.cells #[.slice Vk7.p Vk7.n Vk7.c, .slice Vk7.q Vk7.m Vk7.d, .int .i64 MS.zero.seq] 25)
  have bk7 : Blk (u10.alloc (.cells #[.slice Vk7.p Vk7.n Vk7.c, .slice Vk7.q Vk7.m Vk7.d, .int .i64 MS.zero.seq] 25)) u10.heap.size 25 (SV.cells Vk7 MS.zero) := Blk.new' u10 25 #[.slice Vk7.p Vk7.n Vk7.c, .slice Vk7.q Vk7.m Vk7.d, .int .i64 MS.zero.seq]
  have hbv := bt hbx hal
  replace hB := bt hB hbv
  replace ba := ba.kept hbv
  replace bb := bb.kept hbv
  replace bc := bc.kept hbv
  replace bk1 := bk1.kept hbv
  replace bk2 := bk2.kept hbv
  replace bk3 := bk3.kept hbv
  replace bk4 := bk4.kept hbv
  replace bk5 := bk5.kept hbv
  replace bk6 := bk6.kept hbv
  replace ok1 := ok1.below hbv
  replace ok2 := ok2.below hbv
  replace ok3 := ok3.below hbv
  replace ok4 := ok4.below hbv
  replace ok5 := ok5.below hbv
  replace ok6 := ok6.below hbv
  have ok7 := ho.inS.below hal
  clear hbx hal hbv ho
  generalize hV1 : u10.alloc (.cells #[.slice Vk7.p Vk7.n Vk7.c, .slice Vk7.q Vk7.m Vk7.d, .int .i64 MS.zero.seq] 25) = v10 at *
  clear hV1
  generalize u10.heap.size = gk7 at *
  go_wp2
  go_ret
  exact ⟨rfl, hB⟩
end Go.Proofs.Ytpikaagdiafieaa
