/-
  MapBack, one case of the walk.
-/
import Derived.Test.YtpikaagdiafieabMjBack0
namespace Go.Proofs.Ytpikaagdiafieab
open Go.RowKit
set_option linter.unusedSimpArgs false in
set_option linter.unusedVariables false in
set_option maxRecDepth 100000 in
set_option maxHeartbeats 16000000 in
theorem back_10 (V U : SV) (S T : MS) (gen : Int) (X : PV) (P : MP) (w : World) (hS : InS w V S) (hT : InS w U T) (hP : InP w X P) (hok : okMP P = true) (hcp : ¬ (cpR S gen).2 = 0) :
    Calls Try.prog 4 #[V.val S, U.val T, .int .i64 gen, X.val P] w fun e w' => e = .returned (.bool true) ∧ Below w.heap.size w w' := by
  have hB := bt (bt (below_alloc w (.cells #[.slice V.p V.n V.c, .slice V.q V.m V.d, .int .i64 S.seq] 26)) (below_alloc _ (.cells #[.slice U.p U.n U.c, .slice U.q U.m U.d, .int .i64 T.seq] 26))) (below_alloc _ (.cells #[.int .i64 P.kind, .int .i64 P.gen, .int .i64 P.part, .int .i64 P.seq, .slice X.pb X.nb X.cb, .slice X.pw X.nw X.cw, .slice X.pr X.nr X.cr] 34))
  have ba : Blk _ _ _ (SV.cells V S) := ((Blk.new' w 26 #[.slice V.p V.n V.c, .slice V.q V.m V.d, .int .i64 S.seq]).alloc (.cells #[.slice U.p U.n U.c, .slice U.q U.m U.d, .int .i64 T.seq] 26)).alloc (.cells #[.int .i64 P.kind, .int .i64 P.gen, .int .i64 P.part, .int .i64 P.seq, .slice X.pb X.nb X.cb, .slice X.pw X.nw X.cw, .slice X.pr X.nr X.cr] 34)
  have bb : Blk _ _ _ (SV.cells U T) := (Blk.new' (w.alloc (.cells #[.slice V.p V.n V.c, .slice V.q V.m V.d, .int .i64 S.seq] 26)) 26 #[.slice U.p U.n U.c, .slice U.q U.m U.d, .int .i64 T.seq]).alloc (.cells #[.int .i64 P.kind, .int .i64 P.gen, .int .i64 P.part, .int .i64 P.seq, .slice X.pb X.nb X.cb, .slice X.pw X.nw X.cw, .slice X.pr X.nr X.cr] 34)
  have bp : Blk _ _ _ (PV.cells X P) := Blk.new' ((w.alloc (.cells #[.slice V.p V.n V.c, .slice V.q V.m V.d, .int .i64 S.seq] 26)).alloc (.cells #[.slice U.p U.n U.c, .slice U.q U.m U.d, .int .i64 T.seq] 26)) 34 #[.int .i64 P.kind, .int .i64 P.gen, .int .i64 P.part, .int .i64 P.seq, .slice X.pb X.nb X.cb, .slice X.pw X.nw X.cw, .slice X.pr X.nr X.cr]
  simp only [World.size_alloc] at bb bp
  have y1 := fun W (h : InP W X P) => bytes_any X P W h
  rw [bytesR_ok hok] at y1
  have y2 := fun p n c W (h : In W p n c (writeL P)) => parse_any p n c (writeL P) W h
  rw [parseR_back hok] at y2
  generalize writeL P = Z at *
  have k1 := fun W (h : InS W V S) => checkpoint_any V S gen W h
  have hne : ((cpR S gen).2 != 0) = true := by rw [bne_iff_ne]; exact hcp
  generalize cpR S gen = CR at *
  obtain ⟨CL, CE⟩ := CR
  dsimp only at hne k1
  clear hcp
  clear hok
  go_enter Try.func4, Try.ntmps4
  go_upto_region 3 with (go_at_call 6; refine (begun_any _).mono ?_; rintro e w1 ⟨rfl, hb1⟩)
  replace hB := bt hB hb1
  replace ba := ba.kept hb1
  replace bb := bb.kept hb1
  replace bp := bp.kept hb1
  clear hb1
  generalize w.heap.size + 1 + 1 = gp at *
  generalize w.heap.size + 1 = gt at *
  obtain ⟨z0, z1, z2, z3, z4, z5, z6⟩ := bp.cells7
  go_upto_region 8 with (first
    | (go_at_call 13; refine (y1 _ (hP.below hB)).mono ?_; rintro e w2 ⟨p1, n1, c1, rfl, hin1, hb2⟩; dsimp only at hin1 ⊢; replace hB := bt hB hb2; replace ba := ba.kept hb2; replace bb := bb.kept hb2; replace bp := bp.kept hb2; clear hb2)
    | (go_at_call 14; refine (y2 p1 n1 c1 _ hin1).mono ?_; rintro e w3 ⟨Xq, rfl, oq, hb3⟩; dsimp only at oq ⊢; have hal := below_alloc w3 (.cells #[.int .i64 P.kind, .int .i64 P.gen, .int .i64 P.part, .int .i64 P.seq, .slice Xq.pb Xq.nb Xq.cb, .slice Xq.pw Xq.nw Xq.cw, .slice Xq.pr Xq.nr Xq.cr] 34); have bq : Blk _ _ _ (PV.cells Xq P) := Blk.new' w3 34 #[.int .i64 P.kind, .int .i64 P.gen, .int .i64 P.part, .int .i64 P.seq, .slice Xq.pb Xq.nb Xq.cb, .slice Xq.pw Xq.nw Xq.cw, .slice Xq.pr Xq.nr Xq.cr]; replace oq := oq.next hal; replace hB := bt hB (bt hb3 hal); replace ba := ba.kept (bt hb3 hal); replace bb := bb.kept (bt hb3 hal); replace bp := bp.kept (bt hb3 hal); clear hb3 hal hin1; obtain ⟨z0, z1, z2, z3, z4, z5, z6⟩ := bp.cells7; obtain ⟨v0, v1, v2, v3, v4, v5, v6⟩ := bq.cells7)
    | (go_at_call 15; refine (rsamePage_any X Xq P P _ (hP.below hB) oq.inP).mono ?_; rw [sameP_iff.2 rfl]; rintro e W ⟨rfl, hb4⟩; replace hB := bt hB hb4; replace ba := ba.kept hb4; replace bb := bb.kept hb4; clear hb4))
  clear z0 z1 z2 z3 z4 z5 z6 v0 v1 v2 v3 v4 v5 v6 y1 y2 bq oq bp
  obtain ⟨a0, a1, a2⟩ := ba.cells3
  go_wp2_with (go_at_call 16; refine (k1 _ (hS.below hB)).mono ?_; rintro e w5 ⟨p5, c5, L5, rfl, ho5, hl5, hi5, hb5⟩; dsimp only; replace hB := bt hB hb5; clear hb5)
  go_ret
  exact ⟨rfl, hB⟩
end Go.Proofs.Ytpikaagdiafieab
