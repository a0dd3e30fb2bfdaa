/-
  MapBack, one case of the walk.
-/
import Derived.Test.YtpikaagdiafieabMjBack0
namespace Go.Proofs.Ytpikaagdiafieab
open Go.RowKit
set_option linter.unusedSimpArgs false in
set_option linter.unusedVariables false in
set_option maxRecDepth 100000 in
set_option maxHeartbeats 16000000 in
theorem back_02 (V U : SV) (S T : MS) (gen : Int) (X : PV) (P : MP) (w : World) (hS : InS w V S) (hT : InS w U T) (hP : InP w X P) (hok : okMP P = false) (hs : okMS S = true) (hg : okGen gen) (ht : okMS T = true) (hcov : coversB T S = true) :
    Calls Try.prog 4 #[V.val S, U.val T, .int .i64 gen, X.val P] w fun e w' => e = .returned (.bool true) ∧ Below w.heap.size w w' := by
  have hB := bt (bt (below_alloc w (.cells #[.slice V.p V.n V.c, .slice V.q V.m V.d, .int .i64 S.seq] 26)) (below_alloc _ (.cells #[.slice U.p U.n U.c, .slice U.q U.m U.d, .int .i64 T.seq] 26))) (below_alloc _ (.cells #[.int .i64 P.kind, .int .i64 P.gen, .int .i64 P.part, .int .i64 P.seq, .slice X.pb X.nb X.cb, .slice X.pw X.nw X.cw, .slice X.pr X.nr X.cr] 34))
  have ba : Blk _ _ _ (SV.cells V S) := ((Blk.new' w 26 #[.slice V.p V.n V.c, .slice V.q V.m V.d, .int .i64 S.seq]).alloc (.cells #[.slice U.p U.n U.c, .slice U.q U.m U.d, .int .i64 T.seq] 26)).alloc (.cells #[.int .i64 P.kind, .int .i64 P.gen, .int .i64 P.part, .int .i64 P.seq, .slice X.pb X.nb X.cb, .slice X.pw X.nw X.cw, .slice X.pr X.nr X.cr] 34)
  have bb : Blk _ _ _ (SV.cells U T) := (Blk.new' (w.alloc (.cells #[.slice V.p V.n V.c, .slice V.q V.m V.d, .int .i64 S.seq] 26)) 26 #[.slice U.p U.n U.c, .slice U.q U.m U.d, .int .i64 T.seq]).alloc (.cells #[.int .i64 P.kind, .int .i64 P.gen, .int .i64 P.part, .int .i64 P.seq, .slice X.pb X.nb X.cb, .slice X.pw X.nw X.cw, .slice X.pr X.nr X.cr] 34)
  have bp : Blk _ _ _ (PV.cells X P) := Blk.new' ((w.alloc (.cells #[.slice V.p V.n V.c, .slice V.q V.m V.d, .int .i64 S.seq] 26)).alloc (.cells #[.slice U.p U.n U.c, .slice U.q U.m U.d, .int .i64 T.seq] 26)) 34 #[.int .i64 P.kind, .int .i64 P.gen, .int .i64 P.part, .int .i64 P.seq, .slice X.pb X.nb X.cb, .slice X.pw X.nw X.cw, .slice X.pr X.nr X.cr]
  simp only [World.size_alloc] at bb bp
  have y1 := fun W (h : InP W X P) => bytes_any X P W h
  rw [bytesR_no hok] at y1
  have k1 := fun W (h : InS W V S) => checkpoint_any V S gen W h
  have HVn : Hid (S.bad.length = V.n) := hS.b.len
  have hG : Good V.n S := ⟨hs, HVn.out⟩
  have hsz := hG.size
  obtain ⟨m, HM⟩ : ∃ m : Nat, Hid (m = (V.n + 63) / 64) := ⟨_, (rfl : (V.n + 63) / 64 = (V.n + 63) / 64)⟩
  rw [show cpR S gen = (cpL S gen m, 0) by unfold cpR; rw [if_pos hs, if_pos hg, HVn.out, HM.out]] at k1
  have HCL : Hid ((cpL S gen m).length = m) := cpL_length S gen m
  have k2 := fun W p c (L : List QP) (h : InQ W p m c L) => replay_any (V.n : Int) p m c _ _ W h
  have HRP : Hid (replayP V.n (cpL S gen m) = (S, gen)) := replay_check hG hg HM.out
  have hparts := fun W => parts_any (V.n : Int) W
  rw [show partsI (V.n : Int) = (m : Int) by unfold partsI; rw [if_pos (by omega), HM.out]; omega] at hparts
  have hmx : ∀ W : World, (Builtin.max_ #[3, 3] 3 #[.int .i64 (V.n : Int), .int .i64 64]).run Try.prog W = .ok (.int .i64 ((max V.n 64 : Nat) : Int)) W := fun W => max_int V.n 64 W
  have hfew : 16 * m < max V.n 64 := by rw [HM.out]; exact parts_few hsz
  have hmb : m ≤ 4 := by rw [HM.out]; omega
  have hmx9 : max V.n 64 ≤ 256 := by rw [Nat.max_def]; split <;> omega
  generalize max V.n 64 = M at *
  have hlt16 : (16 * (m : Int) < (M : Int)) := by omega
  have hge16 : ¬ (16 * (m : Int) ≥ (M : Int)) := by omega
  have hqm : ((m : Int) != (m : Int)) = false := by simp
  have hqg : (gen != gen) = false := by simp
  have HSS : Hid (sameS S S = true) := sameS_iff.2 rfl
  have d1 := fun W (h1 : InS W V S) (h2 : InS W U T) => diff_any V U S T W h1 h2
  obtain ⟨-, -, hle⟩ := covers_le hcov
  have hGT : Good V.n T := ⟨ht, by rw [hle.lb]; exact HVn.out⟩
  rw [show diffR S T = (diffTo S T V.n, 0) by unfold diffR; rw [hs, ht, hcov, hGT.sz]; rfl] at d1
  have HAP : Hid (applyR S (diffTo S T V.n) = (T, 0)) := diff_apply hG hGT hle
  have HFO : Hid ((diffTo S T V.n).all (okFor V.n) = true) := diff_okFor hG hGT V.n (Nat.le_refl _)
  have HFD : Hid ((diffTo S T V.n).foldl learnR S = T) := by show _ = _; rw [diff_fold hG hGT hle V.n (Nat.le_refl _), mix_all hG hGT]
  have HDN : Hid ((diffTo S T V.n).length ≤ 600) := Nat.le_trans (diffTo_len S T V.n) (by omega)
  have HTT : Hid (sameS T T = true) := sameS_iff.2 rfl
  generalize diffTo S T V.n = DL at *
  clear hok
  go_enter Try.func4, Try.ntmps4
  go_upto_region 3 with (go_at_call 6; refine (begun_any _).mono ?_; rintro e w1 ⟨rfl, hb1⟩)
  replace hB := bt hB hb1
  replace ba := ba.kept hb1
  replace bb := bb.kept hb1
  replace bp := bp.kept hb1
  clear hb1
  generalize w.heap.size + 1 + 1 = gp at *
  generalize w.heap.size + 1 = gt at *
  obtain ⟨z0, z1, z2, z3, z4, z5, z6⟩ := bp.cells7
  go_upto_region 8 with (go_at_call 13; refine (y1 _ (hP.below hB)).mono ?_; rintro e W ⟨p1, n1, c1, rfl, hin1, hb2⟩; dsimp only)
  replace hB := bt hB hb2
  replace ba := ba.kept hb2
  replace bb := bb.kept hb2
  replace bp := bp.kept hb2
  clear hb2 hin1 z0 z1 z2 z3 z4 z5 z6 y1
  obtain ⟨a0, a1, a2⟩ := ba.cells3
  go_upto_region 12 with (go_at_call 16; refine (k1 _ (hS.below hB)).mono ?_; rintro e w5 ⟨p5, c5, L5, rfl, ho5, hl5, hi5, hb5⟩; dsimp only at ho5 hl5 hi5 ⊢; rw [HCL.out] at ho5 hi5 ⊢; have hBC := hb5; have hWB := hB; replace hB := bt hB hb5; replace ba := ba.kept hb5; replace bb := bb.kept hb5; clear hb5; obtain ⟨a0, a1, a2⟩ := ba.cells3)
  have hL5 : L5.length = m := by have := congrArg List.length hl5; rw [List.length_map] at this; rw [this]; exact HCL.out
  obtain ⟨p6, c6, hv6, hiq⟩ := in_of_ownsQ ho5 (by omega) (fun i hi => (hi5 i (by omega)).inP)
  cases hv6
  have k3 := k2 _ p5 c5 L5 hiq
  rw [hl5, replayR_any hsz, HRP.out] at k3
  clear hiq k1
  go_upto_region 13 with (go_at_call 5; refine k3.mono ?_; rintro e u6 ⟨V6, rfl, ho6, hb6⟩; dsimp only)
  dsimp only at ho6
  have hal := below_alloc u6 (.cells #[.slice V6.p V6.n V6.c, .slice V6.q V6.m V6.d, .int .i64 S.seq] 26)
  have b6 : Blk _ _ _ (SV.cells V6 S) := Blk.new' u6 26 #[.slice V6.p V6.n V6.c, .slice V6.q V6.m V6.d, .int .i64 S.seq]
  have hbv := bt hb6 hal
  have hB6 := bt hB hb6
  have hbt6 := (bb.kept hb6).lt
  replace hB := bt hB hbv
  replace ba := ba.kept hbv
  replace bb := bb.kept hbv
  have o6 := ho6.inS.below hal
  replace ho5 := owns_below ho5 hbv
  replace hi5 : ∀ i, i < m → OwnP W.heap.size _ (eQ L5 i).1 (eQ L5 i).2 := fun i hi => (hi5 i hi).next hbv
  have hBC2 := bt hBC hbv
  clear hb6 hal hbv ho6 k3 hBC
  generalize hV1 : u6.alloc (.cells #[.slice V6.p V6.n V6.c, .slice V6.q V6.m V6.d, .int .i64 S.seq] 26) = W6 at *
  clear hV1
  have hg6w : w.heap.size ≤ u6.heap.size := hB6.size
  have hgt6 : gt ≠ u6.heap.size := by have := hbt6; omega
  clear hB6 hbt6
  generalize u6.heap.size = g6 at *
  obtain ⟨a0, a1, a2⟩ := ba.cells3
  obtain ⟨e0, e1, e2⟩ := b6.cells3
  go_upto_region 15 with (first
    | (go_at_call 10; refine (rsame_any V6 V S S _ o6 (hS.below hB)).mono ?_; rw [HSS.out]; rintro e w7 ⟨rfl, hb7⟩; replace hB := bt hB hb7; replace ba := ba.kept hb7; replace bb := bb.kept hb7; replace b6 := b6.kept hb7; replace ho5 := owns_below ho5 hb7; replace hi5 : ∀ i, i < m → OwnP W.heap.size _ (eQ L5 i).1 (eQ L5 i).2 := fun i hi => (hi5 i hi).next hb7; replace hBC2 := bt hBC2 hb7; clear hb7)
    | (go_at_call 17; refine (hparts _).mono ?_; rintro e w' ⟨rfl, hw'⟩; have hw2 := hw'.symm; subst hw2; clear hw'))
  clear a0 a1 a2 e0 e1 e2 o6
  obtain ⟨a0, a1, a2⟩ := ba.cells3
  obtain ⟨f0, f1, f2⟩ := bb.cells3
  go_upto_region 18 with (go_at_call 18; refine (d1 _ (hS.below hB) (hT.below hB)).mono ?_; rintro e w8 ⟨v8, rfl, ho8, hb8⟩; dsimp only at ho8 ⊢; obtain ⟨p8, c8, hv8⟩ := owns_sliceR ho8; subst hv8; replace ho8 : ∃ B0, World.ownsRow w8 B0 60 3 (.slice p8 DL.length c8) DL.length (flatM DL) := ⟨_, ho8⟩; obtain ⟨w8B, ho8⟩ := ho8; replace hB := bt hB hb8; replace ba := ba.kept hb8; replace bb := bb.kept hb8; replace b6 := b6.kept hb8; replace ho5 := owns_below ho5 hb8; replace hi5 : ∀ i, i < m → OwnP W.heap.size _ (eQ L5 i).1 (eQ L5 i).2 := fun i hi => (hi5 i hi).next hb8; replace hBC2 := bt hBC2 hb8; clear hb8; obtain ⟨a0, a1, a2⟩ := ba.cells3)
  obtain ⟨N, HN⟩ : ∃ N : Nat, Hid (DL.length = N) := ⟨_, rfl⟩
  rw [HN.out] at ho8 HDN ⊢
  obtain ⟨p9, c9, hv9, hir⟩ := in_of_ownsR ho8 (by have := HDN.out; omega)
  cases hv9
  have ap := fun W (h1 : InS W V S) (h2 : InR W p8 N c8 DL) => apply_any V S p8 N c8 DL W h1 h2
  rw [HAP.out] at ap
  go_upto_region 19 with (go_at_call 19; refine (ap _ (hS.below hB) hir).mono ?_; rintro e u9 ⟨V9, rfl, ho9, hb9⟩; dsimp only)
  dsimp only at ho9
  have hal := below_alloc u9 (.cells #[.slice V9.p V9.n V9.c, .slice V9.q V9.m V9.d, .int .i64 T.seq] 26)
  have b9 : Blk _ _ _ (SV.cells V9 T) := Blk.new' u9 26 #[.slice V9.p V9.n V9.c, .slice V9.q V9.m V9.d, .int .i64 T.seq]
  have hbv := bt hb9 hal
  replace hB := bt hB hbv
  replace ba := ba.kept hbv
  replace bb := bb.kept hbv
  replace b6 := b6.kept hbv
  have o9 := ho9.inS.below hal
  replace ho5 := owns_below ho5 hbv
  replace ho8 := owns_below ho8 hbv
  replace hi5 : ∀ i, i < m → OwnP W.heap.size _ (eQ L5 i).1 (eQ L5 i).2 := fun i hi => (hi5 i hi).next hbv
  replace hBC2 := bt hBC2 hbv
  clear hb9 hal hbv ho9 ap hir
  generalize hV1 : u9.alloc (.cells #[.slice V9.p V9.n V9.c, .slice V9.q V9.m V9.d, .int .i64 T.seq] 26) = W9 at *
  clear hV1
  generalize u9.heap.size = g9 at *
  clear a0 a1 a2 f0 f1 f2
  obtain ⟨f0, f1, f2⟩ := bb.cells3
  obtain ⟨e0, e1, e2⟩ := b9.cells3
  go_wp2_with (go_at_call 10; refine (rsame_any V9 U T T _ o9 (hT.below hB)).mono ?_; rw [HTT.out]; rintro e WL ⟨rfl, hb7⟩; replace hB := bt hB hb7; replace bb := bb.kept hb7; replace b6 := b6.kept hb7; replace ho5 := owns_below ho5 hb7; replace ho8 := owns_below ho8 hb7; replace hi5 : ∀ i, i < m → OwnP W.heap.size _ (eQ L5 i).1 (eQ L5 i).2 := fun i hi => (hi5 i hi).next hb7; replace hBC2 := bt hBC2 hb7; clear hb7)
  clear f0 f1 f2 e0 e1 e2 o9 b9 ba
  obtain ⟨g8, HG8⟩ : ∃ g8, Hid (0 < N → p8 = some ⟨g8, 0, none⟩) := by
    rcases ho8.2 with ⟨-, h0⟩ | ⟨g, cap, cur, hv, _⟩
    · exact ⟨0, fun h => by omega⟩
    · simp only [Value.slice.injEq] at hv
      exact ⟨g, fun _ => hv.1⟩
  have HAL : Hid (DL.all okMR = true) := by
    show _ = _
    have := HFO.out
    rw [List.all_eq_true] at *
    intro x hx
    have h1 := this x hx
    simp only [okFor, Bool.and_eq_true] at h1
    exact h1.1
  have hcap8 : N ≤ c8 := by
    rcases ho8.2 with ⟨hv, h0⟩ | ⟨g, cap, cur, hv, _, _, hnc, _⟩
    · omega
    · simp only [Value.slice.injEq] at hv; omega
  have hwW : w.heap.size ≤ W.heap.size := hWB.size
  go_loopw [13, 19] (fun pg lv wr => ∃ (d K R C : Nat) (pp : Option Addr) (cp : Nat) (LL : List QP) (q : Option Addr), d + R = N ∧ d + C = c8 ∧ K ≤ m + d ∧ pg = .slice pp K cp ∧ lv = .slice q R C ∧ (0 < R → q = some ⟨g8, d * 3, none⟩) ∧ LL.length = K ∧ wr.ownsRow W.heap.size 34 7 (.slice pp K cp) K (flatQ LL) ∧ (∀ i, i < K → OwnP W.heap.size wr (eQ LL i).1 (eQ LL i).2) ∧ wr.ownsRow w8B 60 3 (.slice p8 N c8) N (flatM DL) ∧ (replayP V.n (LL.map (·.2))).1 = (DL.take d).foldl learnR S ∧ Blk wr gt 26 (SV.cells U T) ∧ Blk wr g6 26 (SV.cells V6 S) ∧ Below w.heap.size w wr ∧ W.heap.size ≤ wr.heap.size) (fun _ lv _ => lenOf lv)
  case atStart => exact ⟨0, m, N, c8, p5, c5, L5, p8, by omega, by omega, by omega, rfl, rfl, HG8.out, hL5, ho5, hi5, ho8, by rw [hl5, HRP.out]; rfl, bb, b6, hB, hBC2.size⟩
  case round =>
    obtain ⟨d, K, R, C, pp, cp, LL, q, hdR0, hdC0, hK, rfl, rfl, hq, hLL0, hop, hoi, hor8, hrp0, bbr, b6r, hBr, hszr⟩ := hrel
    have HdR : Hid (d + R = N) := hdR0
    have HdC : Hid (d + C = c8) := hdC0
    have HLL : Hid (LL.length = K) := hLL0
    have HRPd : Hid ((replayP V.n (LL.map (·.2))).1 = (DL.take d).foldl learnR S) := hrp0
    have HKm : Hid (K ≤ m + d) := hK
    clear hdR0 hdC0 hLL0 hrp0 ho5 hi5 ho8 bb b6 hB hBC2 hK
    by_cases hlt : 0 < R
    · have hq1 := hq hlt
      subst hq1
      clear hq
      have hp8 := HG8.out (by have := HdR.out; omega)
      subst hp8
      have hRi : (0 : Int) < (R : Int) := by omega
      have hmin : ∀ W : World, (Builtin.min_ #[3, 3] 3 #[.int .i64 (R : Int), .int .i64 24]).run Try.prog W = .ok (.int .i64 ((min R 24 : Nat) : Int)) W := fun W => min_int R 24 W
      obtain ⟨hk1, hk2, hk3⟩ : 1 ≤ min R 24 ∧ min R 24 ≤ 24 ∧ min R 24 ≤ R := ⟨by omega, by omega, by omega⟩
      generalize min R 24 = k at *
      have hRC : R ≤ C := by have := HdR.out; have := HdC.out; omega
      have hsl1 := fun W => sliceR_to (p := some ⟨g8, d * 3, none⟩) (n := R) (c := C) (k := k) (by omega) (by simp) W
      obtain ⟨q2, hq2, hsl2⟩ := sliceR_from g8 (d * 3) R C k hk3
      have hN600 : N ≤ 600 := HDN.out
      have hpart : ∀ X : World, X.ownsRow w8B 60 3 (.slice (some ⟨g8, 0, none⟩) N c8) N (flatM DL) → InR X (some ⟨g8, d * 3, none⟩) k C ((DL.drop d).take k) := fun X h => by
        have := InR.part (d := d) (k := k) h (by have := HdR.out; omega) (by omega)
        rw [show c8 - d = C by have := HdC.out; omega] at this
        exact this
      have HCH : Hid (((DL.drop d).take k).all (okFor V.n) = true) := by
        show _ = _
        have := HFO.out
        rw [List.all_eq_true] at *
        exact fun x hx => this x (List.mem_of_mem_drop (List.mem_of_mem_take hx))
      have HTK : Hid (DL.take (d + k) = DL.take d ++ (DL.drop d).take k) := List.take_add
      have HCL2 : Hid (((DL.drop d).take k).length ≤ 24) := by show _ ≤ _; rw [List.length_take]; omega
      have hrec := fun X h => records_any gen (some ⟨g8, d * 3, none⟩) k C ((DL.drop d).take k) X h
      rw [show recsR gen ((DL.drop d).take k) = (⟨2, gen, 0, 0, [], [], (DL.drop d).take k⟩, 0) by
        have hall : ((DL.drop d).take k).all okMR = true := by
          have := HAL.out
          rw [List.all_eq_true] at *
          exact fun x hx => this x (List.mem_of_mem_drop (List.mem_of_mem_take hx))
        unfold recsR; rw [if_pos hg, if_pos HCL2.out, if_pos hall]] at hrec
      generalize (DL.drop d).take k = CK at *
      obtain ⟨PR, HPR⟩ : ∃ PR : MP, Hid (PR = ⟨2, gen, 0, 0, [], [], CK⟩) := ⟨_, rfl⟩
      rw [← HPR.out] at hrec
      go_upto_region 26 with (go_at_call 20; refine (hrec _ (hpart _ hor8)).mono ?_; rintro e u1 ⟨Vr, rfl, hor, hbr⟩; dsimp only)
      dsimp only at hor
      have hal := below_alloc u1 (.cells #[.int .i64 PR.kind, .int .i64 PR.gen, .int .i64 PR.part, .int .i64 PR.seq, .slice Vr.pb Vr.nb Vr.cb, .slice Vr.pw Vr.nw Vr.cw, .slice Vr.pr Vr.nr Vr.cr] 34)
      have bq : Blk _ _ _ (PV.cells Vr PR) := Blk.new' u1 34 #[.int .i64 PR.kind, .int .i64 PR.gen, .int .i64 PR.part, .int .i64 PR.seq, .slice Vr.pb Vr.nb Vr.cb, .slice Vr.pw Vr.nw Vr.cw, .slice Vr.pr Vr.nr Vr.cr]
      have hbv := bt hbr hal
      replace hop := owns_below hop hbv
      replace hoi : ∀ i, i < K → OwnP W.heap.size _ (eQ LL i).1 (eQ LL i).2 := fun i hi => (hoi i hi).next hbv
      replace hor8 := owns_below hor8 hbv
      replace bbr := bbr.kept hbv
      replace b6r := b6r.kept hbv
      replace hBr := bt hBr hbv
      replace hor := (hor.next hal).low (show W.heap.size ≤ wr.heap.size from hszr)
      replace hszr := Nat.le_trans hszr hbv.size
      clear hal hbv hbr hrec hpart hmin hsl1
      generalize hV1 : u1.alloc (.cells #[.int .i64 PR.kind, .int .i64 PR.gen, .int .i64 PR.part, .int .i64 PR.seq, .slice Vr.pb Vr.nb Vr.cb, .slice Vr.pw Vr.nw Vr.cw, .slice Vr.pr Vr.nr Vr.cr] 34) = Y at *
      clear hV1
      generalize u1.heap.size = gq at *
      obtain ⟨v0, v1, v2, v3, v4, v5, v6⟩ := bq.cells7
      have hal := below_alloc Y (.cells #[.int .i64 PR.kind, .int .i64 PR.gen, .int .i64 PR.part, .int .i64 PR.seq, .slice Vr.pb Vr.nb Vr.cb, .slice Vr.pw Vr.nw Vr.cw, .slice Vr.pr Vr.nr Vr.cr] 34)
      have blit : Blk _ _ _ (QP.cells (Vr, PR)) := Blk.new' Y 34 #[.int .i64 PR.kind, .int .i64 PR.gen, .int .i64 PR.part, .int .i64 PR.seq, .slice Vr.pb Vr.nb Vr.cb, .slice Vr.pw Vr.nw Vr.cw, .slice Vr.pr Vr.nr Vr.cr]
      replace hop := owns_below hop hal
      replace hoi : ∀ i, i < K → OwnP W.heap.size _ (eQ LL i).1 (eQ LL i).2 := fun i hi => (hoi i hi).next hal
      replace hor8 := owns_below hor8 hal
      replace bbr := bbr.kept hal
      replace b6r := b6r.kept hal
      replace hBr := bt hBr hal
      replace hor := hor.next hal
      replace hszr := Nat.le_trans hszr hal.size
      have HOP : Hid ((Y.alloc (.cells #[.int .i64 PR.kind, .int .i64 PR.gen, .int .i64 PR.part, .int .i64 PR.seq, .slice Vr.pb Vr.nb Vr.cb, .slice Vr.pw Vr.nw Vr.cw, .slice Vr.pr Vr.nr Vr.cr] 34)).ownsRow W.heap.size 34 7 (.slice pp K cp) K (flatQ LL)) := hop
      have HBL : Hid (Blk (Y.alloc (.cells #[.int .i64 PR.kind, .int .i64 PR.gen, .int .i64 PR.part, .int .i64 PR.seq, .slice Vr.pb Vr.nb Vr.cb, .slice Vr.pw Vr.nw Vr.cw, .slice Vr.pr Vr.nr Vr.cr] 34)) Y.heap.size 34 (QP.cells (Vr, PR))) := blit
      have HSZ : Hid (W.heap.size ≤ (Y.alloc (.cells #[.int .i64 PR.kind, .int .i64 PR.gen, .int .i64 PR.part, .int .i64 PR.seq, .slice Vr.pb Vr.nb Vr.cb, .slice Vr.pw Vr.nw Vr.cw, .slice Vr.pr Vr.nr Vr.cr] 34)).heap.size) := hszr
      clear hop blit hal hszr
      go_upto_region 27 with (at_builtin; refine wpList_append_pg rfl (.tmp 131) (.tmp 133) rfl W.heap.size pp K cp LL (Vr, PR) _ Y.heap.size rfl HOP.out rfl HBL.out (by have := HKm.out; have := HdR.out; omega) HSZ.out ?_; intro p5' c5' Z hoz hgz hbz)
      clear v0 v1 v2 v3 v4 v5 v6 bq
      have hZi : ∀ i, i < K + 1 → OwnP W.heap.size Z (eQ (LL ++ [(Vr, PR)]) i).1 (eQ (LL ++ [(Vr, PR)]) i).2 := fun i hi => by
        rw [eQ_last (by rw [HLL.out]; exact hi)]
        split
        · rename_i h
          rw [HLL.out] at h
          exact (hoi i h).grown HOP.out hgz
        · exact hor.grown HOP.out hgz
      have hZ8 := owns_grown hor8 hgz (owns_apart (by decide) hor8 HOP.out)
      have hZt := bbr.grownQ HOP.out (by decide) hgz
      have hZ6 := b6r.grownQ HOP.out (by decide) hgz
      have hZB : Below w.heap.size w Z := hBr.trans (hbz.mono hwW)
      have HZR : Hid ((replayP V.n ((LL ++ [(Vr, PR)]).map (·.2))).1 = (DL.take (d + k)).foldl learnR S) := by
        show _ = _
        rw [List.map_append, HTK.out, List.foldl_append, ← HRPd.out]
        show (replayP V.n (LL.map (·.2) ++ [PR])).1 = _
        rw [HPR.out]
        exact replay_recs hg HCL2.out HCH.out
      have HZS : Hid (W.heap.size ≤ Z.heap.size) := Nat.le_trans HSZ.out hbz.size
      clear hoi hor8 bbr b6r hBr hor hgz hbz
      go_wp2
      go_roundw
      case rel =>
        refine ⟨d + k, K + 1, R - k, C - k, p5', c5', LL ++ [(Vr, PR)], q2, by have := HdR.out; omega, by have := HdC.out; omega, by have := HKm.out; omega, rfl, rfl, fun h => ?_, by rw [List.length_append, HLL.out]; rfl, hoz, hZi, hZ8, HZR.out, hZt, hZ6, hZB, HZS.out⟩
        rw [hq2 (by omega), Nat.add_mul]
      case measure => simp [lenOf]; omega
    · have hR0 : R = 0 := by omega
      subst hR0
      have hdN : d = N := by have := HdR.out; omega
      have HFIN : Hid ((replayP V.n (LL.map (·.2))).1 = T) := by show _ = _; rw [HRPd.out, List.take_of_length_le (by rw [HN.out]; omega)]; exact HFD.out
      obtain ⟨p6, c6, hv6, hiq⟩ := in_of_ownsQ hop (by have := HKm.out; have : N ≤ 600 := HDN.out; omega) (fun i hi => (hoi i (by rw [← HLL.out]; exact hi)).inP)
      cases hv6
      have k5 := replay_any (V.n : Int) pp K cp _ _ wr hiq
      rw [replayR_any hsz, HFIN.out] at k5
      generalize (replayP V.n (LL.map (·.2))).2 = RG at *
      clear hq hdN hiq
      go_upto_region 29 with (first
        | (go_at_call 5; refine k5.mono ?_; rintro e y1 ⟨V5, rfl, ho5, hb5⟩; dsimp only at ho5 ⊢; have b65 := b6r.kept hb5)
        | (guard_target = wpList _ _ _ (Oper.mk _ (Op.store 26 (Operand.tmp 16) _) _ _ _ _ :: _) _ _; refine wpList_store_blk rfl 26 (.tmp 16) (.tmp 142) rfl _ _ (SV.cells V5 T) rfl rfl b65 (by show 3 ≤ 3; decide) (msSize V5 T) (msOne V5 T) ?_; intro y2 h9 ht9))
      have bz6 : Blk y2 g6 26 (SV.cells V5 T) := h9
      have hB2 : Below w.heap.size w y2 := ht9.below (bt hBr hb5) hg6w
      have o5 : InS y2 V5 T := (ho5.turned ht9 (owns_blk_ne (by decide) ho5.b b65) (owns_blk_ne (by decide) ho5.v b65)).inS
      have bt5 := (bbr.kept hb5).turned ht9 hgt6
      clear h9 ht9 b65 hb5 ho5 k5
      obtain ⟨f0, f1, f2⟩ := bt5.cells3
      obtain ⟨e0, e1, e2⟩ := bz6.cells3
      go_wp2_with (go_at_call 10; refine (rsame_any V5 U T T _ o5 (hT.below hB2)).mono ?_; rw [HTT.out]; rintro e y3 ⟨rfl, hb7⟩; replace hB2 := bt hB2 hb7; clear hb7)
      go_ret
      exact ⟨rfl, hB2⟩
end Go.Proofs.Ytpikaagdiafieab
