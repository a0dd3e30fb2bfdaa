/-
  What two states know together: checkBoth, Join.
-/
import Derived.Test.YtpikaagdiafieaaMjClone
namespace Go.Proofs.Ytpikaagdiafieaa
open Go.RowKit
def bothE (a b : MS) : Int := if okMS a && okMS b then 0 else 60
theorem Blk.cells3 {w : World} {g : Nat} {t : TypeId} {V : SV} {s : MS} (h : Blk w g t (V.cells s)) : w.cell? ⟨g, 0, none⟩ = some (.slice V.p V.n V.c) ∧ w.cell? ⟨g, 1, none⟩ = some (.slice V.q V.m V.d) ∧ w.cell? ⟨g, 2, none⟩ = some (.int .i64 s.seq) :=
  ⟨h.cell' rfl, h.cell' rfl, h.cell' rfl⟩
theorem checkBoth_any (V U : SV) (a b : MS) (w : World) (ha : InS w V a) (hb : InS w U b) :
    Calls Try.prog 45 #[V.val a, U.val b] w fun e w' => e = .returned (.int .i64 (bothE a b)) ∧ Below w.heap.size w w' := by
  have hbl := bt (below_alloc w (.cells #[.slice V.p V.n V.c, .slice V.q V.m V.d, .int .i64 a.seq] 25)) (below_alloc _ (.cells #[.slice U.p U.n U.c, .slice U.q U.m U.d, .int .i64 b.seq] 25))
  have b2 := (Blk.new' w 25 #[.slice V.p V.n V.c, .slice V.q V.m V.d, .int .i64 a.seq]).alloc (.cells #[.slice U.p U.n U.c, .slice U.q U.m U.d, .int .i64 b.seq] 25)
  have b3 := Blk.new' (w.alloc (.cells #[.slice V.p V.n V.c, .slice V.q V.m V.d, .int .i64 a.seq] 25)) 25 #[.slice U.p U.n U.c, .slice U.q U.m U.d, .int .i64 b.seq]
  rw [World.size_alloc] at b3
  have hca := check_any V a _ (ha.below hbl)
  have hcb := fun W' h' => check_any U b W' (hb.below h')
  cases hok : okMS a with
  | false =>
    rw [chkE_no hok] at hca
    have E : Hid (bothE a b = 60) := by show _ = _; unfold bothE; rw [hok]; rfl
    go_enter Try.func45, Try.ntmps45
    go_wp2_with (go_at_call 15; refine hca.mono ?_; rintro e w1 ⟨rfl, hb1⟩)
    go_ret
    rw [E.out]
    exact ⟨rfl, bt hbl hb1⟩
  | true =>
    rw [chkE_ok hok] at hca
    have E : Hid (bothE a b = chkE b) := by show _ = _; unfold bothE chkE; rw [hok]; rfl
    go_enter Try.func45, Try.ntmps45
    go_wp2_with (first
      | (go_at_call 15; refine hca.mono ?_; rintro e w1 ⟨rfl, hb1⟩; have hB1 := bt hbl hb1; obtain ⟨z0, z1, z2⟩ := (show Blk w1 _ _ (U.cells b) from b3.kept hb1).cells3; clear hca)
      | (go_at_call 15; refine (hcb _ hB1).mono ?_; rintro e w2 ⟨rfl, hb2⟩))
    go_ret
    rw [E.out]
    exact ⟨rfl, bt hB1 hb2⟩
theorem joinE_both {a b : MS} (h : bothE a b = 60) : joinE a b = 60 := by
  unfold bothE at h; unfold joinE
  split
  · rename_i hq; rw [if_pos hq] at h; cases h
  · rfl
/-- A state and an error, in new memory. -/
def ResS (w : World) (r : MS × Int) (e : Ending) (w' : World) : Prop := ∃ V : SV, e = .returned (.tuple #[V.val r.1, .int .i64 r.2]) ∧ OwnS w.heap.size w' V r.1 ∧ Below w.heap.size w w'
theorem ownS_zero (B : Nat) (w : World) : OwnS B w ⟨none, 0, 0, none, 0, 0⟩ MS.zero := ⟨⟨rfl, .inl ⟨rfl, rfl⟩⟩, ⟨rfl, .inl ⟨rfl, rfl⟩⟩, Nat.zero_le _, Nat.zero_le _⟩
/-- Two states' boxes, and a third one. -/
structure B3 (w : World) (V U : SV) (a b : MS) (W : World) : Prop where
  bel : Below w.heap.size w W
  ba : Blk W w.heap.size 25 (V.cells a)
  bb : Blk W (w.heap.size + 1) 25 (U.cells b)
  res : Blk W (w.heap.size + 2) 25 [.slice none 0 0, .slice none 0 0, .int .i64 0]
theorem B3.start (w : World) (V U : SV) (a b : MS) : B3 w V U a b (((w.alloc (.cells #[.slice V.p V.n V.c, .slice V.q V.m V.d, .int .i64 a.seq] 25)).alloc (.cells #[.slice U.p U.n U.c, .slice U.q U.m U.d, .int .i64 b.seq] 25)).alloc (.cells #[.slice none 0 0, .slice none 0 0, .int .i64 0] 25)) := by
  refine ⟨bt (bt (below_alloc w _) (below_alloc _ _)) (below_alloc _ _), ((Blk.new' w 25 #[.slice V.p V.n V.c, .slice V.q V.m V.d, .int .i64 a.seq]).alloc _).alloc _, ?_, ?_⟩
  · have := (Blk.new' (w.alloc (.cells #[.slice V.p V.n V.c, .slice V.q V.m V.d, .int .i64 a.seq] 25)) 25 #[.slice U.p U.n U.c, .slice U.q U.m U.d, .int .i64 b.seq]).alloc (.cells #[.slice none 0 0, .slice none 0 0, .int .i64 0] 25)
    rwa [World.size_alloc] at this
  · have := Blk.new' ((w.alloc (.cells #[.slice V.p V.n V.c, .slice V.q V.m V.d, .int .i64 a.seq] 25)).alloc (.cells #[.slice U.p U.n U.c, .slice U.q U.m U.d, .int .i64 b.seq] 25)) 25 #[.slice none 0 0, .slice none 0 0, .int .i64 0]
    rwa [World.size_alloc, World.size_alloc] at this
theorem B3.next {w W W' : World} {V U : SV} {a b : MS} (h : B3 w V U a b W) (hb : Below W.heap.size W W') : B3 w V U a b W' := ⟨bt h.bel hb, h.ba.kept hb, h.bb.kept hb, h.res.kept hb⟩
set_option linter.unusedSimpArgs false in
set_option maxRecDepth 100000 in
set_option maxHeartbeats 1000000 in
theorem join_any (V U : SV) (a b : MS) (w : World) (ha : InS w V a) (hb : InS w U b) :
    Calls Try.prog 11 #[V.val a, U.val b] w (ResS w (joinR a b)) := by
  have h0 := B3.start w V U a b
  have hcb := checkBoth_any V U a b _ (ha.below h0.bel) (hb.below h0.bel)
  by_cases hbo : bothE a b = 0
  · rw [hbo] at hcb
    have hoks : okMS a = true ∧ okMS b = true := by
      unfold bothE at hbo
      cases h1 : okMS a <;> cases h2 : okMS b <;> simp_all
    have HLa : Hid (a.bad.length = V.n) := ha.b.len
    have HLb : Hid (b.bad.length = U.n) := hb.b.len
    have HWa : Hid (a.wear.length = V.m) := ha.v.len
    have HWb : Hid (b.wear.length = U.m) := hb.v.len
    obtain ⟨⟨ka1, ka2⟩, ka3, -⟩ := okMS_iff.1 hoks.1
    obtain ⟨⟨kb1, kb2⟩, kb3, -⟩ := okMS_iff.1 hoks.2
    rw [HLa.out] at ka1 ka2 ka3
    rw [HWa.out] at ka3
    rw [HLb.out] at kb1 kb2 kb3
    rw [HWb.out] at kb3
    obtain ⟨p, n0, c, q, n, d⟩ := V
    obtain ⟨p', n0', c', q', n', d'⟩ := U
    dsimp only at ka1 ka2 ka3 kb1 kb2 kb3
    subst ka3
    subst kb3
    dsimp only [SV.val] at *
    by_cases hnn : n = n'
    · have E : Hid (joinR a b = (joinMS a b, 0)) := by
        show _ = _
        unfold joinR
        rw [joinE_iff.2 ⟨hoks.1, hoks.2, by rw [HLa.out, HLb.out]; exact hnn⟩, if_pos rfl]
      subst hnn
      clear hoks hbo
      go_enter Try.func11, Try.ntmps11
      go_wp2_with (first
        | (go_at_call 45; refine hcb.mono ?_; rintro e w1 ⟨rfl, hb1⟩; have h1 := h0.next hb1; obtain ⟨x0, x1, x2⟩ := h1.ba.cells3; obtain ⟨y0, y1, y2⟩ := h1.bb.cells3; clear hcb hb1 h0)
        | (go_at_call 46; refine (copied_any ⟨p, n, c, q, n, d⟩ a _ (ha.below h1.bel) (by dsimp only; omega) (by dsimp only; omega)).mono ?_; rintro e w2 ⟨V2, rfl, hv1, hv2, ho2, hb2⟩; obtain ⟨p2, n2, c2, q2, m2, d2⟩ := V2; dsimp only at hv1 hv2; have e1 := hv1.symm; have e2 := hv2.symm; clear hv1 hv2; subst e1; subst e2; clear x0 x1 x2 y0 y1 y2; have b3 : Blk (w2.alloc (.cells #[.slice p2 n c2, .slice q2 n d2, .int .i64 a.seq] 25)) w2.heap.size 25 (SV.cells ⟨p2, n, c2, q2, n, d2⟩ a) := Blk.new' w2 25 #[.slice p2 n c2, .slice q2 n d2, .int .i64 a.seq]; have hb3 := bt hb2 (below_alloc w2 (.cells #[.slice p2 n c2, .slice q2 n d2, .int .i64 a.seq] 25)); have o3 := ho2.next (below_alloc w2 (.cells #[.slice p2 n c2, .slice q2 n d2, .int .i64 a.seq] 25)); have h3 := h1.next hb3; have bx : BoxS w1.heap.size _ w2.heap.size ⟨p2, n, c2, q2, n, d2⟩ a := ⟨b3, o3, hb2.size⟩; obtain ⟨y0, y1, y2⟩ := h3.bb.cells3; clear o3 b3 h3 ho2)
        | (go_at_call 47; refine (learnBlocks_any w1.heap.size w2.heap.size _ a 0 p' n c' b.bad q' d' b.wear _ bx rfl (by omega) (fun W hW => hb.b.below (bt h1.bel (hb3.trans hW))) (fun W hW => hb.v.below (bt h1.bel (hb3.trans hW)))).mono ?_; rintro e w4 ⟨rfl, bx4, hb4⟩; have hb34 := hb3.trans hb4; obtain ⟨y0, y1, y2⟩ := (h1.next hb34).bb.cells3)
        | (go_at_call 48; refine (learnSeq_any w1.heap.size w2.heap.size _ _ b.seq w4 bx4).mono ?_; rintro e w5 ⟨rfl, bx5, hb5⟩; have hb35 := hb34.trans hb5; have h5 := h1.next hb35; obtain ⟨y0, y1, y2⟩ := bx5.box.cells3)
        | (guard_target = wpList _ _ _ (Oper.mk _ (Op.store 25 (Operand.tmp 4) _) _ _ _ _ :: _) _ _; refine wpList_store_blk rfl 25 (.tmp 4) (.tmp 33) rfl _ _ [.slice p2 n c2, .slice q2 n d2, .int .i64 (max a.seq b.seq)] rfl rfl h5.res (by simp) (msSize ⟨p2, n, c2, q2, n, d2⟩ ⟨a.bad, a.wear, max a.seq b.seq⟩) (msOne ⟨p2, n, c2, q2, n, d2⟩ ⟨a.bad, a.wear, max a.seq b.seq⟩) ?_; intro w9 h9 ht9))
      have EJ : (⟨upB a.bad 0 (min n (n - 0)) b.bad, upW a.wear 0 (min n (n - 0)) b.wear, max a.seq b.seq⟩ : MS) = joinMS a b := by
        unfold joinMS
        rw [Nat.sub_zero, Nat.min_self, HLb.out]
      have bo5 := bx5.own
      rw [EJ] at bo5
      have hsz := h1.bel.size
      have h9' : Blk w9 (w.heap.size + 2) 25 (SV.cells ⟨p2, n, c2, q2, n, d2⟩ (joinMS a b)) := h9
      refine ret_msE Try.results11 rfl h9' rfl rfl ?_
      rw [E.out]
      exact ⟨_, rfl, (bo5.turned ht9 (owns_blk_ne (by decide) bo5.b h5.res) (owns_blk_ne (by decide) bo5.v h5.res)).low hsz, ht9.below h5.bel (by omega)⟩
    · have hne : ((n : Int) != (n' : Int)) = true := by rw [bne_iff_ne]; omega
      have E : Hid (joinR a b = (MS.zero, 1)) := by
        show _ = _
        have e1 : joinE a b = 1 := by
          unfold joinE
          rw [hoks.1, hoks.2, HLa.out, HLb.out]
          simp [hnn]
        unfold joinR
        rw [e1, if_neg (by decide)]
      clear hnn hoks hbo
      go_enter Try.func11, Try.ntmps11
      go_wp2_with (first
        | (go_at_call 45; refine hcb.mono ?_; rintro e w1 ⟨rfl, hb1⟩; have h1 := h0.next hb1; obtain ⟨x0, x1, x2⟩ := h1.ba.cells3; obtain ⟨y0, y1, y2⟩ := h1.bb.cells3; clear hcb hb1 h0)
        | (guard_target = wpList _ _ _ (Oper.mk _ (Op.store 25 (Operand.tmp 4) _) _ _ _ _ :: _) _ _; refine wpList_store_blk rfl 25 (.tmp 4) (.tmp 22) rfl _ _ [.slice none 0 0, .slice none 0 0, .int .i64 0] rfl rfl h1.res (by simp) (msSize ⟨none, 0, 0, none, 0, 0⟩ MS.zero) (msOne ⟨none, 0, 0, none, 0, 0⟩ MS.zero) ?_; intro w9 h9 ht9; replace h9 : Blk w9 (w.heap.size + 2) 25 (SV.cells ⟨none, 0, 0, none, 0, 0⟩ MS.zero) := h9))
      refine ret_msE Try.results11 rfl h9 rfl rfl ?_
      rw [E.out]
      exact ⟨_, rfl, ownS_zero _ _, ht9.below h1.bel (by omega)⟩
  · have hbo' : bothE a b = 60 := by
      unfold bothE at *
      split
      · rename_i hq; rw [if_pos hq] at hbo; exact absurd rfl hbo
      · rfl
    have E : Hid (joinR a b = (MS.zero, 60)) := by
      show _ = _
      unfold joinR
      rw [joinE_both hbo', if_neg (by decide)]
    rw [hbo'] at hcb
    go_enter Try.func11, Try.ntmps11
    go_wp2_with (first
      | (go_at_call 45; refine hcb.mono ?_; rintro e w1 ⟨rfl, hb1⟩; have h1 := h0.next hb1; clear hcb)
      | (refine wpList_store_blk rfl 25 (.tmp 4) (.tmp 13) rfl _ _ [.slice none 0 0, .slice none 0 0, .int .i64 0] rfl rfl h1.res (by simp) (msSize ⟨none, 0, 0, none, 0, 0⟩ MS.zero) (msOne ⟨none, 0, 0, none, 0, 0⟩ MS.zero) ?_; intro w9 h9 ht9; replace h9 : Blk w9 (w.heap.size + 2) 25 (SV.cells ⟨none, 0, 0, none, 0, 0⟩ MS.zero) := h9))
    refine ret_msE Try.results11 rfl h9 rfl rfl ?_
    rw [E.out]
    exact ⟨_, rfl, ownS_zero _ _, ht9.below h1.bel (by omega)⟩
end Go.Proofs.Ytpikaagdiafieaa
