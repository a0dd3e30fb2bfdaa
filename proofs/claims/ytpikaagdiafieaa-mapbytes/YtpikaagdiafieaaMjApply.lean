/-
  What Apply answers.
-/
import Derived.Test.YtpikaagdiafieaaMjRec
namespace Go.Proofs.Ytpikaagdiafieaa
open Go.RowKit
theorem applyR_bad {s : MS} {l : List MR} (h1 : okMS s = true) (h2 : l.all (okFor s.bad.length) = false) : applyR s l = (MS.zero, 61) := by
  unfold applyR; rw [if_pos h1, h2]; rfl
theorem applyR_no {s : MS} {l : List MR} (h1 : okMS s = false) : applyR s l = (MS.zero, 60) := by
  unfold applyR; rw [h1]; rfl
theorem okFor_no1 {n : Nat} {r : MR} (h : okMR r = false) : okFor n r = false := by unfold okFor; rw [h]; rfl
theorem okFor_no2 {n : Nat} {r : MR} (h : ¬ r.block < (n : Int)) : okFor n r = false := by unfold okFor; rw [decide_eq_false h, Bool.and_false]
theorem okMR_block {r : MR} (h : okMR r = true) : 0 ≤ r.block := by
  rcases okMR_facts h with h | h | h <;> omega
theorem Blk.cellsR {w : World} {g : Nat} {t : TypeId} {x y z : Value} (h : Blk w g t [x, y, z]) : w.cell? ⟨g, 0, none⟩ = some x ∧ w.cell? ⟨g, 1, none⟩ = some y ∧ w.cell? ⟨g, 2, none⟩ = some z := ⟨h.cell' rfl, h.cell' rfl, h.cell' rfl⟩
set_option linter.unusedSimpArgs false in
set_option maxRecDepth 100000 in
set_option maxHeartbeats 2000000 in
theorem apply_any (V : SV) (s : MS) (pl : Option Addr) (N c' : Nat) (l : List MR) (w : World) (hs : InS w V s) (hl : InR w pl N c' l) :
    Calls Try.prog 20 #[V.val s, .slice pl N c'] w (ResS w (applyR s l)) := by
  have h0 := PS.start w V s (.slice none 0 0) (.slice none 0 0) (.int .i64 0)
  have hck := check_any V s _ (hs.below h0.bel)
  cases hok : okMS s with
  | false =>
    rw [chkE_no hok] at hck
    have E : Hid (applyR s l = (MS.zero, 60)) := applyR_no hok
    obtain ⟨x0, x1, x2⟩ := h0.box.cells3
    go_enter Try.func20, Try.ntmps20
    go_wp2_with (first
      | (go_at_call 15; refine hck.mono ?_; rintro e w1 ⟨rfl, hb1⟩; have h1 := h0.next hb1; obtain ⟨cs, hcl, hres⟩ := h1.res)
      | (guard_target = wpList _ _ _ (Oper.mk _ (Op.store 25 (Operand.tmp 4) _) _ _ _ _ :: _) _ _; refine wpList_store_blk rfl 25 (.tmp 4) (.tmp 14) rfl _ _ [.slice none 0 0, .slice none 0 0, .int .i64 0] rfl rfl hres (by rw [hcl]; exact Nat.le_refl _) (msSize ⟨none, 0, 0, none, 0, 0⟩ MS.zero) (msOne ⟨none, 0, 0, none, 0, 0⟩ MS.zero) ?_; intro w9 h9 ht9; rw [whole_row (by rw [hcl]; rfl)] at h9; replace h9 : Blk w9 (w.heap.size + 1) 25 (SV.cells ⟨none, 0, 0, none, 0, 0⟩ MS.zero) := h9))
    refine ret_msE Try.results20 rfl h9 rfl rfl ?_
    rw [E.out]
    exact ⟨_, rfl, ownS_zero _ _, ht9.below h1.bel (by omega)⟩
  | true =>
    rw [chkE_ok hok] at hck
    have HLl : Hid (l.length = N) := hl.len
    have hN : N ≤ 140737488355328 := hl.room
    have HL : Hid (s.bad.length = V.n) := hs.b.len
    have HWl : Hid (s.wear.length = V.m) := hs.v.len
    obtain ⟨⟨ka1, ka2⟩, ka3, -⟩ := okMS_iff.1 hok
    rw [HL.out] at ka1 ka2 ka3
    rw [HWl.out] at ka3
    have HOK : Hid (okMS s = true) := hok
    clear hok
    obtain ⟨x0, x1, x2⟩ := h0.box.cells3
    obtain ⟨p, n0, c, q, n, d⟩ := V
    dsimp only at ka1 ka2 ka3
    subst ka3
    dsimp only [SV.val] at *
    go_enter Try.func20, Try.ntmps20
    go_wp2_with (first
      | (go_at_call 15; refine hck.mono ?_; rintro e w1 ⟨rfl, hb1⟩; have h1 := h0.next hb1; obtain ⟨x0, x1, x2⟩ := h1.box.cells3; clear hck h0)
      | (go_at_call 46; refine (copied_any ⟨p, n, c, q, n, d⟩ s _ (hs.below h1.bel) (by dsimp only; omega) (by dsimp only; omega)).mono ?_; rintro e w2 ⟨V2, rfl, hv1, hv2, ho2, hb2⟩; obtain ⟨p2, n2, c2, q2, m2, d2⟩ := V2; dsimp only at hv1 hv2; have e1 := hv1.symm; have e2 := hv2.symm; clear hv1 hv2; subst e1; subst e2; clear x0 x1 x2; have b3 : Blk (w2.alloc (.cells #[.slice p2 n c2, .slice q2 n d2, .int .i64 s.seq] 25)) w2.heap.size 25 (SV.cells ⟨p2, n, c2, q2, n, d2⟩ s) := Blk.new' w2 25 #[.slice p2 n c2, .slice q2 n d2, .int .i64 s.seq]; have hb3 := bt hb2 (below_alloc w2 (.cells #[.slice p2 n c2, .slice q2 n d2, .int .i64 s.seq] 25)); have o3 := ho2.next (below_alloc w2 (.cells #[.slice p2 n c2, .slice q2 n d2, .int .i64 s.seq] 25)); have bx : BoxS w1.heap.size _ w2.heap.size ⟨p2, n, c2, q2, n, d2⟩ s := ⟨b3, o3, hb2.size⟩; clear o3 b3 ho2))
    go_loopw [20] (fun i wr => ∃ k : Nat, k ≤ N ∧ i = .int .i64 k ∧ BoxS w1.heap.size wr w2.heap.size ⟨p2, n, c2, q2, n, d2⟩ ((l.take k).foldl learnR s) ∧ Below w1.heap.size w1 wr ∧ (∀ j, j < k → okFor n (eR l j) = true)) (fun i _ => N - (intOf i).toNat)
    case atStart => exact ⟨0, Nat.zero_le _, rfl, bx, hb3, fun j h => by omega⟩
    case round =>
      obtain ⟨k, hk, rfl, hx, hbel, hall⟩ := hrel
      have HA : Hid (∀ j, j < k → okFor n (eR l j) = true) := hall
      clear hall bx hb3
      have hw := h1.next hbel
      have hsz1 : w1.heap.size ≤ wr.heap.size := hbel.size
      by_cases hlt : k < N
      · obtain ⟨gr, orr, rfl, hgr, hcr⟩ := (hl.below hw.bel).at' (by omega)
        obtain ⟨r0, r1, r2⟩ := hcr k hlt
        clear hcr
        have hw2 := hw.next (below_alloc wr (.cells #[.int .i64 (eR l k).kind, .int .i64 (eR l k).block, .int .i64 (eR l k).value] 65))
        have hx2 := hx.next (below_alloc wr (.cells #[.int .i64 (eR l k).kind, .int .i64 (eR l k).block, .int .i64 (eR l k).value] 65))
        have rb := Blk.new' wr 65 #[.int .i64 (eR l k).kind, .int .i64 (eR l k).block, .int .i64 (eR l k).value]
        have hsz2 : w1.heap.size ≤ (wr.alloc (.cells #[.int .i64 (eR l k).kind, .int .i64 (eR l k).block, .int .i64 (eR l k).value] 65)).heap.size := by rw [World.size_alloc]; omega
        have hb2' := hbel.trans ((below_alloc wr (.cells #[.int .i64 (eR l k).kind, .int .i64 (eR l k).block, .int .i64 (eR l k).value] 65)).mono hsz1)
        cases hok : okMR (eR l k) with
        | false =>
          have E : Hid (applyR s l = (MS.zero, 61)) := applyR_bad HOK.out (allR_not (by rw [HLl.out]; exact hlt) (okFor_no1 hok))
          go_wp2_with (first
            | (go_at_call 56; refine (recordMayBe_any (eR l k) _).mono ?_; rintro e w4 ⟨rfl, hb4⟩; rw [hok]; have h4 := hw2.next hb4; obtain ⟨cs, hcl, hres⟩ := h4.res)
            | (guard_target = wpList _ _ _ (Oper.mk _ (Op.store 25 (Operand.tmp 4) _) _ _ _ _ :: _) _ _; refine wpList_store_blk rfl 25 (.tmp 4) (.tmp 33) rfl _ _ [.slice none 0 0, .slice none 0 0, .int .i64 0] rfl rfl hres (by rw [hcl]; exact Nat.le_refl _) (msSize ⟨none, 0, 0, none, 0, 0⟩ MS.zero) (msOne ⟨none, 0, 0, none, 0, 0⟩ MS.zero) ?_; intro w9 h9 ht9; rw [whole_row (by rw [hcl]; rfl)] at h9; replace h9 : Blk w9 (w.heap.size + 1) 25 (SV.cells ⟨none, 0, 0, none, 0, 0⟩ MS.zero) := h9))
          refine ret_msE Try.results20 rfl h9 rfl rfl ?_
          rw [E.out]
          exact ⟨_, rfl, ownS_zero _ _, ht9.below h4.bel (by omega)⟩
        | true =>
          have h0b := okMR_block hok
          by_cases hin : (eR l k).block < (n : Int)
          · have hin' : decide ((eR l k).block < (n : Int)) = true := decide_eq_true hin
            have HF : Hid (okFor n (eR l k) = true) := by show _ = _; unfold okFor; rw [hok, hin']; rfl
            have EF : Hid ((l.take (k + 1)).foldl learnR s = learnR ((l.take k).foldl learnR s) (eR l k)) := by
              show _ = _
              rw [takeR_succ l k (by rw [HLl.out]; exact hlt), List.foldl_append]; rfl
            go_wp2_with (first
              | (go_at_call 56; refine (recordMayBe_any (eR l k) _).mono ?_; rintro e w4 ⟨rfl, hb4⟩; rw [hok]; have h4 := hw2.next hb4; have hx4 := hx2.next hb4; have rb4 := rb.kept hb4; obtain ⟨x0, x1, x2⟩ := h4.box.cells3; obtain ⟨y0, y1, y2⟩ := rb4.cellsR; have hsz4 := Nat.le_trans hsz2 hb4.size; have hbb4 := hb2'.trans (hb4.mono hsz2))
              | (go_at_call 57; refine (isOf_any ⟨p, n, c, q, n, d⟩ s (eR l k) _).mono ?_; rintro e w5 ⟨rfl, hb5⟩; dsimp only; rw [hin']; have hx5 := hx4.next hb5; have rb5 := rb4.kept hb5; obtain ⟨y0, y1, y2⟩ := rb5.cellsR; have hsz5 := Nat.le_trans hsz4 hb5.size; have hbb5 := hbb4.trans (hb5.mono hsz4))
              | (go_at_call 58; refine (learnRecord_any w1.heap.size w2.heap.size _ _ (eR l k) _ hx5 rfl hsz5 h0b hin).mono ?_; rintro e w6 ⟨rfl, hx6, hb6⟩))
            go_roundw
            case rel =>
              refine ⟨k + 1, by omega, by go_num, by rw [EF.out]; exact hx6, hbb5.trans hb6, fun j hj => ?_⟩
              rcases Nat.lt_succ_iff_lt_or_eq.1 hj with h | h
              · exact HA.out j h
              · rw [h]; exact HF.out
            case measure => simp [intOf]; omega
          · have hin' : decide ((eR l k).block < (n : Int)) = false := decide_eq_false hin
            have E : Hid (applyR s l = (MS.zero, 61)) := applyR_bad HOK.out (allR_not (by rw [HLl.out]; exact hlt) (okFor_no2 (by rw [HL.out]; exact hin)))
            go_wp2_with (first
              | (go_at_call 56; refine (recordMayBe_any (eR l k) _).mono ?_; rintro e w4 ⟨rfl, hb4⟩; rw [hok]; have h4 := hw2.next hb4; have rb4 := rb.kept hb4; obtain ⟨x0, x1, x2⟩ := h4.box.cells3; obtain ⟨y0, y1, y2⟩ := rb4.cellsR)
              | (go_at_call 57; refine (isOf_any ⟨p, n, c, q, n, d⟩ s (eR l k) _).mono ?_; rintro e w5 ⟨rfl, hb5⟩; dsimp only; rw [hin']; have h5 := h4.next hb5; obtain ⟨cs, hcl, hres⟩ := h5.res)
              | (guard_target = wpList _ _ _ (Oper.mk _ (Op.store 25 (Operand.tmp 4) _) _ _ _ _ :: _) _ _; refine wpList_store_blk rfl 25 (.tmp 4) (.tmp 33) rfl _ _ [.slice none 0 0, .slice none 0 0, .int .i64 0] rfl rfl hres (by rw [hcl]; exact Nat.le_refl _) (msSize ⟨none, 0, 0, none, 0, 0⟩ MS.zero) (msOne ⟨none, 0, 0, none, 0, 0⟩ MS.zero) ?_; intro w9 h9 ht9; rw [whole_row (by rw [hcl]; rfl)] at h9; replace h9 : Blk w9 (w.heap.size + 1) 25 (SV.cells ⟨none, 0, 0, none, 0, 0⟩ MS.zero) := h9))
            refine ret_msE Try.results20 rfl h9 rfl rfl ?_
            rw [E.out]
            exact ⟨_, rfl, ownS_zero _ _, ht9.below h5.bel (by omega)⟩
      · have hkN : k = N := by omega
        have E : Hid (applyR s l = ((l.take k).foldl learnR s, 0)) := by
          show _ = _
          rw [applyR_ok HOK.out (eR_all.2 fun j hj => by rw [HL.out]; exact HA.out j (by have := HLl.out; omega)), List.take_of_length_le (by have := HLl.out; omega)]
        clear hkN
        generalize (l.take k).foldl learnR s = T at *
        obtain ⟨y0, y1, y2⟩ := hx.box.cells3
        obtain ⟨cs, hcl, hres⟩ := hw.res
        go_wp2_with (guard_target = wpList _ _ _ (Oper.mk _ (Op.store 25 (Operand.tmp 4) _) _ _ _ _ :: _) _ _; refine wpList_store_blk rfl 25 (.tmp 4) (.tmp 37) rfl _ _ [.slice p2 n c2, .slice q2 n d2, .int .i64 T.seq] rfl rfl hres (by rw [hcl]; exact Nat.le_refl _) (msSize ⟨p2, n, c2, q2, n, d2⟩ T) (msOne ⟨p2, n, c2, q2, n, d2⟩ T) ?_; intro w9 h9 ht9; rw [whole_row (by rw [hcl]; rfl)] at h9; replace h9 : Blk w9 (w.heap.size + 1) 25 (SV.cells ⟨p2, n, c2, q2, n, d2⟩ T) := h9)
        refine ret_msE Try.results20 rfl h9 rfl rfl ?_
        rw [E.out]
        exact ⟨_, rfl, (hx.own.turned ht9 (owns_blk_ne (by decide) hx.own.b hres) (owns_blk_ne (by decide) hx.own.v hres)).low h1.bel.size, ht9.below hw.bel (by omega)⟩
end Go.Proofs.Ytpikaagdiafieaa
