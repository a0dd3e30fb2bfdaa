/-
  What the reference's may, one and Apply answer.
-/
import Derived.Test.YtpikaagdiafieaaMjRef2
namespace Go.Proofs.Ytpikaagdiafieaa
open Go.RowKit
set_option linter.unusedSimpArgs false in
theorem rmay_any (r : MR) (w : World) : Calls Try.prog 59 #[r.val] w fun e w' => e = .returned (.bool (okMR r)) ∧ Below w.heap.size w w' := by
  obtain ⟨k, b, v⟩ := r
  dsimp only [MR.val]
  have hbl := below_alloc w (.cells #[.int .i64 k, .int .i64 b, .int .i64 v] 65)
  have bx := Blk.new' w 65 #[.int .i64 k, .int .i64 b, .int .i64 v]
  have x0 := bx.cell' (i := 0) rfl
  have x1 := bx.cell' (i := 1) rfl
  have x2 := bx.cell' (i := 2) rfl
  clear bx
  have E : Hid (okMR ⟨k, b, v⟩ = if k == 1 then (decide (b ≥ 0) && decide (b < 256)) && (v == 0) else if k == 2 then (decide (b ≥ 0) && decide (b < 256)) && (decide (v ≥ 0) && decide (v ≤ 16777215)) else if k == 3 then (b == 0) && (decide (v ≥ 0) && decide (v ≤ 1152921504606846976)) else false) := by
    show _ = _
    unfold okMR okWear
    have e1 : decide (b ≤ 255) = decide (b < 256) := by
      by_cases h : b ≤ 255
      · rw [decide_eq_true h, decide_eq_true (by omega)]
      · rw [decide_eq_false h, decide_eq_false (by omega)]
    dsimp only
    rw [e1]
    simp only [ge_iff_le, beq_iff_eq]
    by_cases h1 : k = 1
    · rw [if_pos h1, if_pos h1]; cases h : (v == 0) <;> simp_all
    · rw [if_neg h1, if_neg h1]
      by_cases h2 : k = 2
      · rw [if_pos h2, if_pos h2]
      · rw [if_neg h2, if_neg h2]
        by_cases h3 : k = 3
        · rw [if_pos h3, if_pos h3]; cases h : (b == 0) <;> simp_all
        · rw [if_neg h3, if_neg h3]
  by_cases h1 : k = 1
  · subst h1
    by_cases hb0 : b ≥ 0
    · by_cases hb1 : b < 256
      · go_enter Try.func59, Try.ntmps59
        go_wp2
        go_ret
        refine ⟨ret_bool ?_, hbl⟩
        rw [E.out]
        first | (simp [*]; done) | (simp [*]; intros; omega)
      · go_enter Try.func59, Try.ntmps59
        go_wp2
        go_ret
        refine ⟨ret_bool ?_, hbl⟩
        rw [E.out]
        first | (simp [*]; done) | (simp [*]; intros; omega)
    · go_enter Try.func59, Try.ntmps59
      go_wp2
      go_ret
      refine ⟨ret_bool ?_, hbl⟩
      rw [E.out]
      first | (simp [*]; done) | (simp [*]; intros; omega)
  · have n1 : (k == 1) = false := by simpa using h1
    by_cases h2 : k = 2
    · subst h2
      by_cases hb0 : b ≥ 0
      · by_cases hb1 : b < 256
        · by_cases hv0 : v ≥ 0
          · go_enter Try.func59, Try.ntmps59
            go_wp2
            go_ret
            refine ⟨ret_bool ?_, hbl⟩
            rw [E.out]
            first | (simp [*]; done) | (simp [*]; intros; omega)
          · go_enter Try.func59, Try.ntmps59
            go_wp2
            go_ret
            refine ⟨ret_bool ?_, hbl⟩
            rw [E.out]
            first | (simp [*]; done) | (simp [*]; intros; omega)
        · go_enter Try.func59, Try.ntmps59
          go_wp2
          go_ret
          refine ⟨ret_bool ?_, hbl⟩
          rw [E.out]
          first | (simp [*]; done) | (simp [*]; intros; omega)
      · go_enter Try.func59, Try.ntmps59
        go_wp2
        go_ret
        refine ⟨ret_bool ?_, hbl⟩
        rw [E.out]
        first | (simp [*]; done) | (simp [*]; intros; omega)
    · have n2 : (k == 2) = false := by simpa using h2
      by_cases h3 : k = 3
      · subst h3
        by_cases hb : b = 0
        · subst hb
          by_cases hv0 : v ≥ 0
          · go_enter Try.func59, Try.ntmps59
            go_wp2
            go_ret
            refine ⟨ret_bool ?_, hbl⟩
            rw [E.out]
            first | (simp [*]; done) | (simp [*]; intros; omega)
          · go_enter Try.func59, Try.ntmps59
            go_wp2
            go_ret
            refine ⟨ret_bool ?_, hbl⟩
            rw [E.out]
            first | (simp [*]; done) | (simp [*]; intros; omega)
        · have nb : (b == 0) = false := by simpa using hb
          clear hb
          by_cases hb0 : b ≥ 0
          · go_enter Try.func59, Try.ntmps59
            go_wp2
            go_ret
            refine ⟨ret_bool ?_, hbl⟩
            rw [E.out]
            first | (simp [*]; done) | (simp [*]; intros; omega)
          · go_enter Try.func59, Try.ntmps59
            go_wp2
            go_ret
            refine ⟨ret_bool ?_, hbl⟩
            rw [E.out]
            first | (simp [*]; done) | (simp [*]; intros; omega)
      · have n3 : (k == 3) = false := by simpa using h3
        clear h1 h2 h3
        by_cases hb0 : b ≥ 0
        · go_enter Try.func59, Try.ntmps59
          go_wp2
          go_ret
          refine ⟨ret_bool ?_, hbl⟩
          rw [E.out]
          first | (simp [*]; done) | (simp [*]; intros; omega)
        · go_enter Try.func59, Try.ntmps59
          go_wp2
          go_ret
          refine ⟨ret_bool ?_, hbl⟩
          rw [E.out]
          first | (simp [*]; done) | (simp [*]; intros; omega)
set_option maxHeartbeats 1000000 in
theorem rone_any (B : Nat) (V : SV) (s : MS) (r : MR) (w : World) (h : OwnS B w V s) (hV : V.m = V.n) (hB : B ≤ w.heap.size) (h0 : 0 ≤ r.block) (hr : r.block < (V.n : Int)) :
    Calls Try.prog 60 #[V.val s, r.val] w fun e w' => e = .returned (V.val (learnR s r)) ∧ OwnS B w' V (learnR s r) ∧ Below B w w' := by
  obtain ⟨k, bI, v⟩ := r
  dsimp only [MR.val] at *
  obtain ⟨b, rfl⟩ : ∃ b : Nat, bI = (b : Int) := ⟨bI.toNat, by omega⟩
  obtain ⟨p, n0, c, q, n, d⟩ := V
  dsimp only [SV.val] at *
  subst hV
  have hbl := bt (bt (below_alloc w (.cells #[.slice p n c, .slice q n d, .int .i64 s.seq] 25)) (below_alloc _ (.cells #[.int .i64 k, .int .i64 (b : Int), .int .i64 v] 65))) (below_alloc _ (.cells #[.slice none 0 0, .slice none 0 0, .int .i64 0] 25))
  have bs : Blk _ _ _ (SV.cells ⟨p, n, c, q, n, d⟩ s) := ((Blk.new' w 25 #[.slice p n c, .slice q n d, .int .i64 s.seq]).alloc (.cells #[.int .i64 k, .int .i64 (b : Int), .int .i64 v] 65)).alloc (.cells #[.slice none 0 0, .slice none 0 0, .int .i64 0] 25)
  have bx := (Blk.new' (w.alloc (.cells #[.slice p n c, .slice q n d, .int .i64 s.seq] 25)) 65 #[.int .i64 k, .int .i64 (b : Int), .int .i64 v]).alloc (.cells #[.slice none 0 0, .slice none 0 0, .int .i64 0] 25)
  have br := Blk.new' ((w.alloc (.cells #[.slice p n c, .slice q n d, .int .i64 s.seq] 25)).alloc (.cells #[.int .i64 k, .int .i64 (b : Int), .int .i64 v] 65)) 25 #[.slice none 0 0, .slice none 0 0, .int .i64 0]
  simp only [World.size_alloc] at bx br
  have ho := h.next hbl
  have hb0 := hbl.mono hB
  obtain ⟨x0, x1, x2⟩ := bx.cellsR
  obtain ⟨y0, y1, y2⟩ := bs.cells3
  have hgl : w.heap.size + 1 + 1 ≠ w.heap.size := by omega
  have hbx : BoxS B _ w.heap.size ⟨p, n, c, q, n, d⟩ s := ⟨bs, ho, hB⟩
  have HL : Hid (s.bad.length = n) := h.inS.b.len
  have HW : Hid (s.wear.length = n) := h.inS.v.len
  have hn : n ≤ 140737488355328 := h.hm
  clear h bx
  generalize hWW : (((w.alloc (.cells #[.slice p n c, .slice q n d, .int .i64 s.seq] 25)).alloc (.cells #[.int .i64 k, .int .i64 (b : Int), .int .i64 v] 65)).alloc (.cells #[.slice none 0 0, .slice none 0 0, .int .i64 0] 25)) = W at *
  by_cases h1 : k = 1
  · subst h1
    have E : Hid (learnR s ⟨1, (b : Int), v⟩ = { s with bad := s.bad.set b true }) := by show _ = _; unfold learnR; simp
    obtain ⟨gp, rfl, hgp, hgpl⟩ := owns_at ho.b (by dsimp only; omega)
    have c1 := ho.b.cellAt b (by dsimp only; omega)
    rw [valsB_get _ _ (by have := HL.out; omega)] at c1
    have cf := ho.b.frozenAt b
    have hst := (ho.b.stored b (.bool true)).1
    rw [show (valsB s.bad).set b (.bool true) = valsB (s.bad.set b true) by simp [valsB, List.map_set]] at hst
    have K1 := hbx.setBad rfl (Turned.setCell _ ⟨gp, b, none⟩ (.bool true)) hst
    have K2 := (Turned.setCell _ ⟨gp, b, none⟩ (.bool true)).below hb0 hgp
    have res9 := br.turned (Turned.setCell W ⟨gp, b, none⟩ (.bool true)) (fun e => owns_blk_ne (by decide) ho.b br _ rfl e.symm)
    obtain ⟨z0, z1, z2⟩ := K1.box.cells3
    clear hst
    go_enter Try.func60, Try.ntmps60
    go_upto_region 1 with (fail)
    go_wp2_with (guard_target = wpList _ _ _ (Oper.mk _ (Op.store 25 (Operand.tmp 4) _) _ _ _ _ :: _) _ _; refine wpList_store_blk rfl 25 (.tmp 4) (.tmp 38) rfl _ _ [.slice (some ⟨gp, 0, none⟩) n c, .slice q n d, .int .i64 s.seq] rfl rfl res9 (by simp) (msSize ⟨(some ⟨gp, 0, none⟩), n, c, q, n, d⟩ ⟨s.bad, s.wear, s.seq⟩) (msOne ⟨(some ⟨gp, 0, none⟩), n, c, q, n, d⟩ ⟨s.bad, s.wear, s.seq⟩) ?_; intro w9 h9 ht9)
    have h9' : Blk w9 (w.heap.size + 2) 25 (SV.cells ⟨(some ⟨gp, 0, none⟩), n, c, q, n, d⟩ { s with bad := s.bad.set b true }) := h9
    refine ret_ms Try.results60 rfl h9' rfl ?_
    rw [E.out]
    exact ⟨rfl, K1.own.turned ht9 (owns_blk_ne (by decide) K1.own.b res9) (owns_blk_ne (by decide) K1.own.v res9), ht9.below K2 (by omega)⟩
  · have n1 : (k == 1) = false := by simpa using h1
    by_cases h2 : k = 2
    · subst h2
      have E : Hid (learnR s ⟨2, (b : Int), v⟩ = { s with wear := s.wear.set b (max (eI s.wear b) v) }) := by show _ = _; unfold learnR; simp
      clear h1
      obtain ⟨gp, rfl, hgp, hgpl⟩ := owns_at ho.v (by dsimp only; omega)
      have c1 := ho.v.cellAt b (by dsimp only; omega)
      rw [valsI_get _ _ (by have := HW.out; omega)] at c1
      have cf := ho.v.frozenAt b
      have key : ∀ z : Int, z = max (eI s.wear b) v → BoxS B (W.setCell ⟨gp, b, none⟩ (.int .i64 z)).drew w.heap.size ⟨p, n, c, some ⟨gp, 0, none⟩, n, d⟩ { s with wear := s.wear.set b (max (eI s.wear b) v) } ∧ Below B w (W.setCell ⟨gp, b, none⟩ (.int .i64 z)).drew ∧ Blk (W.setCell ⟨gp, b, none⟩ (.int .i64 z)).drew (w.heap.size + 1 + 1) 25 [.slice none 0 0, .slice none 0 0, .int .i64 0] := fun z hz => by
        have hs := (ho.v.stored b (.int .i64 z)).1
        rw [valsI_set, hz] at hs
        rw [hz]
        exact ⟨(hbx.setWear rfl (Turned.setCell _ _ _) hs).drew, ((Turned.setCell _ _ _).below hb0 hgp).drew, (br.turned (Turned.setCell W ⟨gp, b, none⟩ _) (fun e => owns_blk_ne (by decide) ho.v br _ rfl e.symm)).drew⟩
      by_cases hgt : v > eI s.wear b
      · obtain ⟨K1, K2, res9⟩ := key v (Int.max_eq_right (by omega)).symm
        obtain ⟨z0, z1, z2⟩ := K1.box.cells3
        clear key
        go_enter Try.func60, Try.ntmps60
        go_upto_region 1 with (fail)
        go_wp2
        go_region
        all_goals
          go_wp2_with (guard_target = wpList _ _ _ (Oper.mk _ (Op.store 25 (Operand.tmp 4) _) _ _ _ _ :: _) _ _; refine wpList_store_blk rfl 25 (.tmp 4) (.tmp 38) rfl _ _ [.slice p n c, .slice (some ⟨gp, 0, none⟩) n d, .int .i64 s.seq] rfl rfl res9 (by simp) (msSize ⟨p, n, c, (some ⟨gp, 0, none⟩), n, d⟩ ⟨s.bad, s.wear, s.seq⟩) (msOne ⟨p, n, c, (some ⟨gp, 0, none⟩), n, d⟩ ⟨s.bad, s.wear, s.seq⟩) ?_; intro w9 h9 ht9)
          have h9' : Blk w9 (w.heap.size + 2) 25 (SV.cells ⟨p, n, c, (some ⟨gp, 0, none⟩), n, d⟩ { s with wear := s.wear.set b (max (eI s.wear b) v) }) := h9
          refine ret_ms Try.results60 rfl h9' rfl ?_
          rw [E.out]
          exact ⟨rfl, K1.own.turned ht9 (owns_blk_ne (by decide) K1.own.b res9) (owns_blk_ne (by decide) K1.own.v res9), ht9.below K2 (by omega)⟩
      · obtain ⟨K1, K2, res9⟩ := key (eI s.wear b) (Int.max_eq_left (by omega)).symm
        obtain ⟨z0, z1, z2⟩ := K1.box.cells3
        clear key
        go_enter Try.func60, Try.ntmps60
        go_upto_region 1 with (fail)
        go_wp2
        go_region
        all_goals
          go_wp2_with (guard_target = wpList _ _ _ (Oper.mk _ (Op.store 25 (Operand.tmp 4) _) _ _ _ _ :: _) _ _; refine wpList_store_blk rfl 25 (.tmp 4) (.tmp 38) rfl _ _ [.slice p n c, .slice (some ⟨gp, 0, none⟩) n d, .int .i64 s.seq] rfl rfl res9 (by simp) (msSize ⟨p, n, c, (some ⟨gp, 0, none⟩), n, d⟩ ⟨s.bad, s.wear, s.seq⟩) (msOne ⟨p, n, c, (some ⟨gp, 0, none⟩), n, d⟩ ⟨s.bad, s.wear, s.seq⟩) ?_; intro w9 h9 ht9)
          have h9' : Blk w9 (w.heap.size + 2) 25 (SV.cells ⟨p, n, c, (some ⟨gp, 0, none⟩), n, d⟩ { s with wear := s.wear.set b (max (eI s.wear b) v) }) := h9
          refine ret_ms Try.results60 rfl h9' rfl ?_
          rw [E.out]
          exact ⟨rfl, K1.own.turned ht9 (owns_blk_ne (by decide) K1.own.b res9) (owns_blk_ne (by decide) K1.own.v res9), ht9.below K2 (by omega)⟩
    · have n2 : (k == 2) = false := by simpa using h2
      by_cases h3 : k = 3
      · subst h3
        have E : Hid (learnR s ⟨3, (b : Int), v⟩ = { s with seq := max s.seq v }) := by show _ = _; unfold learnR; simp
        clear h1 h2
        have hfz := bs.frozen 2
        have key : ∀ z : Int, z = max s.seq v → BoxS B (W.setCell ⟨w.heap.size, 2, none⟩ (.int .i64 z)) w.heap.size ⟨p, n, c, q, n, d⟩ { s with seq := z } ∧ Below B w (W.setCell ⟨w.heap.size, 2, none⟩ (.int .i64 z)) ∧ Blk (W.setCell ⟨w.heap.size, 2, none⟩ (.int .i64 z)) (w.heap.size + 1 + 1) 25 [.slice none 0 0, .slice none 0 0, .int .i64 0] := fun z hz =>
          ⟨hbx.setSeq (Turned.setCell _ _ _) z (bs.set 2 (.int .i64 z)), (Turned.setCell _ _ _).below hb0 hB, br.turned (Turned.setCell W ⟨w.heap.size, 2, none⟩ _) hgl⟩
        by_cases hgt : v > s.seq
        · have EM : Hid (max s.seq v = v) := Int.max_eq_right (by omega)
          obtain ⟨K1, K2, res9⟩ := key v EM.out.symm
          obtain ⟨z0, z1, z2⟩ := K1.box.cells3
          rw [EM.out] at E
          clear key
          go_enter Try.func60, Try.ntmps60
          go_upto_region 1 with (fail)
          go_wp2_with (guard_target = wpList _ _ _ (Oper.mk _ (Op.store 25 (Operand.tmp 4) _) _ _ _ _ :: _) _ _; refine wpList_store_blk rfl 25 (.tmp 4) (.tmp 38) rfl _ _ [.slice p n c, .slice q n d, .int .i64 v] rfl rfl res9 (by simp) (msSize ⟨p, n, c, q, n, d⟩ ⟨s.bad, s.wear, v⟩) (msOne ⟨p, n, c, q, n, d⟩ ⟨s.bad, s.wear, v⟩) ?_; intro w9 h9 ht9)
          have h9' : Blk w9 (w.heap.size + 2) 25 (SV.cells ⟨p, n, c, q, n, d⟩ { s with seq := v }) := h9
          refine ret_ms Try.results60 rfl h9' rfl ?_
          rw [E.out]
          exact ⟨rfl, K1.own.turned ht9 (owns_blk_ne (by decide) K1.own.b res9) (owns_blk_ne (by decide) K1.own.v res9), ht9.below K2 (by omega)⟩
        · have EM : Hid (max s.seq v = s.seq) := Int.max_eq_left (by omega)
          obtain ⟨K1, K2, res9⟩ := key s.seq EM.out.symm
          obtain ⟨z0, z1, z2⟩ := K1.box.cells3
          rw [EM.out] at E
          clear key
          go_enter Try.func60, Try.ntmps60
          go_upto_region 1 with (fail)
          go_wp2_with (guard_target = wpList _ _ _ (Oper.mk _ (Op.store 25 (Operand.tmp 4) _) _ _ _ _ :: _) _ _; refine wpList_store_blk rfl 25 (.tmp 4) (.tmp 38) rfl _ _ [.slice p n c, .slice q n d, .int .i64 s.seq] rfl rfl res9 (by simp) (msSize ⟨p, n, c, q, n, d⟩ ⟨s.bad, s.wear, s.seq⟩) (msOne ⟨p, n, c, q, n, d⟩ ⟨s.bad, s.wear, s.seq⟩) ?_; intro w9 h9 ht9)
          have h9' : Blk w9 (w.heap.size + 2) 25 (SV.cells ⟨p, n, c, q, n, d⟩ { s with seq := s.seq }) := h9
          refine ret_ms Try.results60 rfl h9' rfl ?_
          rw [E.out]
          exact ⟨rfl, K1.own.turned ht9 (owns_blk_ne (by decide) K1.own.b res9) (owns_blk_ne (by decide) K1.own.v res9), ht9.below K2 (by omega)⟩
      · have n3 : (k == 3) = false := by simpa using h3
        have E : Hid (learnR s ⟨k, (b : Int), v⟩ = s) := by show _ = _; unfold learnR; simp [h1, h2, h3]
        clear h1 h2 h3
        have K1 := hbx
        have K2 := hb0
        have res9 := br
        go_enter Try.func60, Try.ntmps60
        go_upto_region 1 with (fail)
        go_wp2_with (guard_target = wpList _ _ _ (Oper.mk _ (Op.store 25 (Operand.tmp 4) _) _ _ _ _ :: _) _ _; refine wpList_store_blk rfl 25 (.tmp 4) (.tmp 38) rfl _ _ [.slice p n c, .slice q n d, .int .i64 s.seq] rfl rfl res9 (by simp) (msSize ⟨p, n, c, q, n, d⟩ ⟨s.bad, s.wear, s.seq⟩) (msOne ⟨p, n, c, q, n, d⟩ ⟨s.bad, s.wear, s.seq⟩) ?_; intro w9 h9 ht9)
        have h9' : Blk w9 (w.heap.size + 2) 25 (SV.cells ⟨p, n, c, q, n, d⟩ s) := h9
        refine ret_ms Try.results60 rfl h9' rfl ?_
        rw [E.out]
        exact ⟨rfl, K1.own.turned ht9 (owns_blk_ne (by decide) K1.own.b res9) (owns_blk_ne (by decide) K1.own.v res9), ht9.below K2 (by omega)⟩
end Go.Proofs.Ytpikaagdiafieaa
