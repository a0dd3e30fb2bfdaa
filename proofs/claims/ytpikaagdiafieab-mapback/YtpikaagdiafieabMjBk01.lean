/-
  MapBack, one case of the walk.
-/
import Derived.Test.YtpikaagdiafieabMjBack0
namespace Go.Proofs.Ytpikaagdiafieab
open Go.RowKit
set_option linter.unusedSimpArgs false in
set_option linter.unusedVariables false in
set_option maxRecDepth 100000 in
set_option maxHeartbeats 16000000 in
theorem back_01 (V U : SV) (S T : MS) (gen : Int) (X : PV) (P : MP) (w : World) (hS : InS w V S) (hT : InS w U T) (hP : InP w X P) (hok : okMP P = false) (hs : okMS S = true) (hg : okGen gen) (hdf : ¬ (diffR S T).2 = 0) :
    Calls Try.prog 4 #[V.val S, U.val T, .int .i64 gen, X.val P] w fun e w' => e = .returned (.bool true) ∧ Below w.heap.size w w' := by
  have hB := bt (bt (below_alloc w (.cells #[.slice V.p V.n V.c, .slice V.q V.m V.d, .int .i64 S.seq] 26)) (below_alloc _ (.cells #[.slice U.p U.n U.c, .slice U.q U.m U.d, .int .i64 T.seq] 26))) (below_alloc _ (.cells #[.int .i64 P.kind, .int .i64 P.gen, .int .i64 P.part, .int .i64 P.seq, .slice X.pb X.nb X.cb, .slice X.pw X.nw X.cw, .slice X.pr X.nr X.cr] 34))
  have ba : Blk _ _ _ (SV.cells V S) := ((Blk.new' w 26 #[.slice V.p V.n V.c, .slice V.q V.m V.d, .int .i64 S.seq]).alloc (.cells #[.slice U.p U.n U.c, .slice U.q U.m U.d, .int .i64 T.seq] 26)).alloc (.cells #[.int .i64 P.kind, .int .i64 P.gen, .int .i64 P.part, .int .i64 P.seq, .slice X.pb X.nb X.cb, .slice X.pw X.nw X.cw, .slice X.pr X.nr X.cr] 34)
  have bb : Blk _ _ _ (SV.cells U T) := (Blk.new' (w.alloc (.cells #[.slice V.p V.n V.c, .slice V.q V.m V.d, .int .i64 S.seq] 26)) 26 #[.slice U.p U.n U.c, .slice U.q U.m U.d, .int .i64 T.seq]).alloc (.cells #[.int .i64 P.kind, .int .i64 P.gen, .int .i64 P.part, .int .i64 P.seq, .slice X.pb X.nb X.cb, .slice X.pw X.nw X.cw, .slice X.pr X.nr X.cr] 34)
  have bp : Blk _ _ _ (PV.cells X P) := Blk.new' ((w.alloc (.cells #[.slice V.p V.n V.c, .slice V.q V.m V.d, .int .i64 S.seq] 26)).alloc (.cells #[.slice U.p U.n U.c, .slice U.q U.m U.d, .int .i64 T.seq] 26)) 34 #[.int .i64 P.kind, .int .i64 P.gen, .int .i64 P.part, .int .i64 P.seq, .slice X.pb X.nb X.cb, .slice X.pw X.nw X.cw, .slice X.pr X.nr X.cr]
  simp only [World.size_alloc] at bb bp
  have y1 := fun W (h : InP W X P) => bytes_any X P W h
  rw [bytesR_no hok] at y1
  have k1 := fun W (h : InS W V S) => checkpoint_any V S gen W h
  have HVn : Hid (S.bad.length = V.n) := hS.b.len
  have hG : Good V.n S := ⟨hs, HVn.out⟩
  have hsz := hG.size
  obtain ⟨m, HM⟩ : ∃ m : Nat, Hid (m = (V.n + 63) / 64) := ⟨_, (rfl : (V.n + 63) / 64 = (V.n + 63) / 64)⟩
  rw [show cpR S gen = (cpL S gen m, 0) by unfold cpR; rw [if_pos hs, if_pos hg, HVn.out, HM.out]] at k1
  have HCL : Hid ((cpL S gen m).length = m) := cpL_length S gen m
  have k2 := fun W p c (L : List QP) (h : InQ W p m c L) => replay_any (V.n : Int) p m c _ _ W h
  have HRP : Hid (replayP V.n (cpL S gen m) = (S, gen)) := replay_check hG hg HM.out
  have hparts := fun W => parts_any (V.n : Int) W
  rw [show partsI (V.n : Int) = (m : Int) by unfold partsI; rw [if_pos (by omega), HM.out]; omega] at hparts
  have hmx : ∀ W : World, (Builtin.max_ #[3, 3] 3 #[.int .i64 (V.n : Int), .int .i64 64]).run Try.prog W = .ok (.int .i64 ((max V.n 64 : Nat) : Int)) W := fun W => max_int V.n 64 W
  have hfew : 16 * m < max V.n 64 := by rw [HM.out]; exact parts_few hsz
  have hmb : m ≤ 4 := by rw [HM.out]; omega
  have hmx9 : max V.n 64 ≤ 256 := by rw [Nat.max_def]; split <;> omega
  generalize max V.n 64 = M at *
  have hlt16 : (16 * (m : Int) < (M : Int)) := by omega
  have hge16 : ¬ (16 * (m : Int) ≥ (M : Int)) := by omega
  have hqm : ((m : Int) != (m : Int)) = false := by simp
  have hqg : (gen != gen) = false := by simp
  have HSS : Hid (sameS S S = true) := sameS_iff.2 rfl
  have d1 := fun W (h1 : InS W V S) (h2 : InS W U T) => diff_any V U S T W h1 h2
  have hne : ((diffR S T).2 != 0) = true := by rw [bne_iff_ne]; exact hdf
  generalize diffR S T = DR at *
  obtain ⟨DL, DE⟩ := DR
  dsimp only at hne d1
  clear hdf
  clear hok
  go_enter Try.func4, Try.ntmps4
  go_upto_region 3 with (go_at_call 6; refine (begun_any _).mono ?_; rintro e w1 ⟨rfl, hb1⟩)
  replace hB := bt hB hb1
  replace ba := ba.kept hb1
  replace bb := bb.kept hb1
  replace bp := bp.kept hb1
  clear hb1
  generalize w.heap.size + 1 + 1 = gp at *
  generalize w.heap.size + 1 = gt at *
  obtain ⟨z0, z1, z2, z3, z4, z5, z6⟩ := bp.cells7
  go_upto_region 8 with (go_at_call 13; refine (y1 _ (hP.below hB)).mono ?_; rintro e W ⟨p1, n1, c1, rfl, hin1, hb2⟩; dsimp only)
  replace hB := bt hB hb2
  replace ba := ba.kept hb2
  replace bb := bb.kept hb2
  replace bp := bp.kept hb2
  clear hb2 hin1 z0 z1 z2 z3 z4 z5 z6 y1
  obtain ⟨a0, a1, a2⟩ := ba.cells3
  go_upto_region 12 with (go_at_call 16; refine (k1 _ (hS.below hB)).mono ?_; rintro e w5 ⟨p5, c5, L5, rfl, ho5, hl5, hi5, hb5⟩; dsimp only at ho5 hl5 hi5 ⊢; rw [HCL.out] at ho5 hi5 ⊢; have hBC := hb5; have hWB := hB; replace hB := bt hB hb5; replace ba := ba.kept hb5; replace bb := bb.kept hb5; clear hb5; obtain ⟨a0, a1, a2⟩ := ba.cells3)
  have hL5 : L5.length = m := by have := congrArg List.length hl5; rw [List.length_map] at this; rw [this]; exact HCL.out
  obtain ⟨p6, c6, hv6, hiq⟩ := in_of_ownsQ ho5 (by omega) (fun i hi => (hi5 i (by omega)).inP)
  cases hv6
  have k3 := k2 _ p5 c5 L5 hiq
  rw [hl5, replayR_any hsz, HRP.out] at k3
  clear hiq k1
  go_upto_region 13 with (go_at_call 5; refine k3.mono ?_; rintro e u6 ⟨V6, rfl, ho6, hb6⟩; dsimp only)
  dsimp only at ho6
  have hal := below_alloc u6 (.cells #[.slice V6.p V6.n V6.c, .slice V6.q V6.m V6.d, .int .i64 S.seq] 26)
  have b6 : Blk _ _ _ (SV.cells V6 S) := Blk.new' u6 26 #[.slice V6.p V6.n V6.c, .slice V6.q V6.m V6.d, .int .i64 S.seq]
  have hbv := bt hb6 hal
  have hB6 := bt hB hb6
  have hbt6 := (bb.kept hb6).lt
  replace hB := bt hB hbv
  replace ba := ba.kept hbv
  replace bb := bb.kept hbv
  have o6 := ho6.inS.below hal
  replace ho5 := owns_below ho5 hbv
  replace hi5 : ∀ i, i < m → OwnP W.heap.size _ (eQ L5 i).1 (eQ L5 i).2 := fun i hi => (hi5 i hi).next hbv
  have hBC2 := bt hBC hbv
  clear hb6 hal hbv ho6 k3 hBC
  generalize hV1 : u6.alloc (.cells #[.slice V6.p V6.n V6.c, .slice V6.q V6.m V6.d, .int .i64 S.seq] 26) = W6 at *
  clear hV1
  have hg6w : w.heap.size ≤ u6.heap.size := hB6.size
  have hgt6 : gt ≠ u6.heap.size := by have := hbt6; omega
  clear hB6 hbt6
  generalize u6.heap.size = g6 at *
  obtain ⟨a0, a1, a2⟩ := ba.cells3
  obtain ⟨e0, e1, e2⟩ := b6.cells3
  go_upto_region 15 with (first
    | (go_at_call 10; refine (rsame_any V6 V S S _ o6 (hS.below hB)).mono ?_; rw [HSS.out]; rintro e w7 ⟨rfl, hb7⟩; replace hB := bt hB hb7; replace ba := ba.kept hb7; replace bb := bb.kept hb7; replace b6 := b6.kept hb7; replace ho5 := owns_below ho5 hb7; replace hi5 : ∀ i, i < m → OwnP W.heap.size _ (eQ L5 i).1 (eQ L5 i).2 := fun i hi => (hi5 i hi).next hb7; replace hBC2 := bt hBC2 hb7; clear hb7)
    | (go_at_call 17; refine (hparts _).mono ?_; rintro e w' ⟨rfl, hw'⟩; have hw2 := hw'.symm; subst hw2; clear hw'))
  clear a0 a1 a2 e0 e1 e2 o6
  obtain ⟨a0, a1, a2⟩ := ba.cells3
  obtain ⟨f0, f1, f2⟩ := bb.cells3
  go_wp2_with (go_at_call 18; refine (d1 _ (hS.below hB) (hT.below hB)).mono ?_; rintro e w8 ⟨v8, rfl, ho8, hb8⟩; dsimp only; replace hB := bt hB hb8; clear hb8)
  go_ret
  exact ⟨rfl, hB⟩
end Go.Proofs.Ytpikaagdiafieab
