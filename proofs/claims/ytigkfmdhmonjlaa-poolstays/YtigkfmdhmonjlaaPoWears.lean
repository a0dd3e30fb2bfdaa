/-
  Wears: the plain function, and what pool's Wears answers.
-/
import Derived.Test.YtigkfmdhmonjlaaPoRSet
namespace Go.Proofs.Ytigkfmdhmonjlaa
open Go.RowKit
/-- The first k wears are the greater ones, the others as they are. -/
def maxTo (W l : List Int) (k : Nat) : List Int := W.mapIdx fun i x => if i < k then max x (eI l i) else x
theorem maxTo_length (W l : List Int) (k : Nat) : (maxTo W l k).length = W.length := by simp [maxTo]
theorem maxTo_zero (W l : List Int) : maxTo W l 0 = W := by apply List.ext_getElem?; intro i; simp [maxTo]
theorem maxTo_at (W l : List Int) (k : Nat) (h : k < W.length) : eI (maxTo W l k) k = eI W k := by simp [maxTo, eI, h]
theorem maxTo_set (W l : List Int) (k : Nat) (h : k < W.length) : (maxTo W l k).set k (max (eI W k) (eI l k)) = maxTo W l (k + 1) := by
  apply List.ext_getElem?
  intro i
  rw [List.getElem?_set]
  by_cases hk : k = i
  · subst hk
    simp [maxTo, h, eI]
  · have e : (i < k) = (i < k + 1) := by apply propext; omega
    simp [maxTo, hk, e]
/-- What Wears answers. -/
def wearsS (R W l : List Int) : List Int × List Int × Int :=
  if okPool R W then (if l.length = W.length ∧ l.all okWear = true then (R, maxTo W l W.length, 0) else ([], [], 1)) else ([], [], 40)
theorem wearsS_no {R W l : List Int} (h : okPool R W = false) : wearsS R W l = ([], [], 40) := by unfold wearsS; rw [h]; rfl
theorem wearsS_arg {R W l : List Int} (h : okPool R W = true) (h' : ¬ (l.length = W.length ∧ l.all okWear = true)) : wearsS R W l = ([], [], 1) := by unfold wearsS; rw [h, if_neg h']; rfl
theorem wearsS_ok {R W l : List Int} (h : okPool R W = true) (h' : l.length = W.length ∧ l.all okWear = true) : wearsS R W l = (R, maxTo W l W.length, 0) := by unfold wearsS; rw [h, if_pos h']; rfl
theorem max_if (x y : Int) : (if x < y then y else x) = max x y := by
  by_cases h : x < y
  · rw [if_pos h, Int.max_eq_right (by omega)]
  · rw [if_neg h, Int.max_eq_left (by omega)]
set_option linter.unusedSimpArgs false in
set_option maxHeartbeats 2000000 in
theorem wears_any (p q s : Option Addr) (n c m d r e : Nat) (R W l : List Int) (w : World) (hR : InI w p n c R) (hW : InI w q m d W) (hl : InI w s r e l) :
    Calls Try.prog 25 #[.agg #[.slice p n c, .slice q m d], .slice s r e] w (PoolRes w (wearsS R W l)) := by
  have HL : Hid (R.length = n) := hR.len
  have HLW : Hid (W.length = m) := hW.len
  have HLl : Hid (l.length = r) := hl.len
  have hS := PS.start w (.slice p n c) (.slice q m d) (.slice none 0 0) (.slice none 0 0)
  cases hok : okPool R W with
  | false =>
    have HE : Hid (checkE R W = 40) := checkE_no hok
    have HS : Hid (wearsS R W l = ([], [], 40)) := wearsS_no hok
    go_enter Try.func25, Try.ntmps25
    go_wp2_with (first
      | (go_at_call 14; refine (check_any p q n c _ d R W _ (hR.below hS.bel) (hW.below hS.bel)).mono ?_; rintro e w1 ⟨rfl, hb1⟩; rw [HE.out]; have hS1 := hS.next hb1; have c0 := hS1.box.cell' (i := 0) rfl; have c1 := hS1.box.cell' (i := 1) rfl; obtain ⟨x, y, hres⟩ := hS1.res)
      | (refine wpList_store_blk rfl 25 (.tmp 4) (.tmp 14) rfl _ _ [.slice none 0 0, .slice none 0 0] rfl rfl hres (by simp) (poolSize _ _) one2 ?_; intro w9 h9 ht9; replace h9 : Blk w9 (w.heap.size + 1) 25 [.slice none 0 0, .slice none 0 0] := h9))
    rw [HS.out]
    exact ret_poolE Try.results25 rfl h9 rfl rfl ⟨_, _, _, _, _, _, rfl, NewP.zero _ _, ht9.below hS1.bel (by omega)⟩
  | true =>
    have HE : Hid (checkE R W = 0) := checkE_ok hok
    by_cases hrm : r = m
    · subst hrm
      cases hq : l.all okWear with
      | false =>
        have HQ : Hid (l.all okWear = false) := hq
        have HS : Hid (wearsS R W l = ([], [], 1)) := wearsS_arg hok (fun h => by rw [hq] at h; cases h.2)
        go_enter Try.func25, Try.ntmps25
        go_wp2_with (first
          | (go_at_call 14; refine (check_any p q n c _ d R W _ (hR.below hS.bel) (hW.below hS.bel)).mono ?_; rintro e w1 ⟨rfl, hb1⟩; rw [HE.out]; have hS1 := hS.next hb1; have c0 := hS1.box.cell' (i := 0) rfl; have c1 := hS1.box.cell' (i := 1) rfl; obtain ⟨x, y, hres⟩ := hS1.res)
          | (go_at_call 45; refine (wearsMayBe_any _ _ _ l _ (hl.below hS1.bel)).mono ?_; rintro e w' ⟨rfl, hw'⟩; have hw2 := hw'.symm; subst hw2; clear hw'; rw [HQ.out])
          | (refine wpList_store_blk rfl 25 (.tmp 4) (.tmp 27) rfl _ _ [.slice none 0 0, .slice none 0 0] rfl rfl hres (by simp) (poolSize _ _) one2 ?_; intro w9 h9 ht9; replace h9 : Blk w9 (w.heap.size + 1) 25 [.slice none 0 0, .slice none 0 0] := h9))
        rw [HS.out]
        exact ret_poolE Try.results25 rfl h9 rfl rfl ⟨_, _, _, _, _, _, rfl, NewP.zero _ _, ht9.below hS1.bel (by omega)⟩
      | true =>
        have HQ : Hid (l.all okWear = true) := hq
        have HS : Hid (wearsS R W l = (R, maxTo W l r, 0)) := by show _ = _; rw [wearsS_ok hok ⟨by rw [HLl.out, HLW.out], hq⟩, HLW.out]
        have HN : Hid (n ≤ 256 ∧ r ≤ 256 ∧ 16 ≤ n ∧ 16 ≤ r) := by have := (okPool_iff.1 hok).1; rw [HL.out, HLW.out] at this; exact ⟨by omega, by omega, by omega, by omega⟩
        clear hq hok
        go_enter Try.func25, Try.ntmps25
        go_upto_region 7 with (first
          | (go_at_call 14; refine (check_any p q n c _ d R W _ (hR.below hS.bel) (hW.below hS.bel)).mono ?_; rintro e w1 ⟨rfl, hb1⟩; rw [HE.out]; have hS1 := hS.next hb1; have c0 := hS1.box.cell' (i := 0) rfl; have c1 := hS1.box.cell' (i := 1) rfl; obtain ⟨x, y, hres⟩ := hS1.res)
          | (go_at_call 45; refine (wearsMayBe_any _ _ _ l _ (hl.below hS1.bel)).mono ?_; rintro e w' ⟨rfl, hw'⟩; have hw2 := hw'.symm; subst hw2; clear hw'; rw [HQ.out])
          | (go_at_call 39; refine (clone_any p q n c r d R W _ (hR.below hS1.bel) (hW.below hS1.bel) (by have := HN.out; omega) (by have := HN.out; omega)).mono ?_; rintro e w2 ⟨p1, c2, q1, d2, rfl, hnp, hb2⟩))
        have hS2 := hS1.next hb2
        have hb3 := below_alloc w2 (.cells #[.slice p1 n c2, .slice q1 r d2] 25)
        have b9 := Blk.new' w2 25 #[.slice p1 n c2, .slice q1 r d2]
        have hlow : w.heap.size + 2 ≤ w1.heap.size := by have := hres.lt; omega
        have hnp3 := (hnp.low hlow).next hb3
        have hS3 := hS2.next hb3
        have hN := HN.out
        obtain ⟨g2, rfl, hg2, hg2'⟩ := owns_at hnp.v (by omega)
        have hg9 : w2.heap.size ≠ g2 := by omega
        have hf0 : w.heap.size ≠ g2 := by omega
        have hf1 : w.heap.size + 1 ≠ g2 := by omega
        have hf2 : w.heap.size ≤ g2 := by omega
        have hg8 : w.heap.size + 1 ≠ w2.heap.size := by omega
        clear hnp hb3 hb2 hb1 hS2 hS1 hS hR hW hlow c0 c1 hres hN hg2 hg2'
        generalize hW7 : w2.alloc (.cells #[.slice p1 n c2, .slice (some ⟨g2, 0, none⟩) r d2] 25) = w7 at *
        generalize w2.heap.size = g9 at *
        clear hW7
        have hr47 := hl.room
        go_wp2_with fail
        go_loopw [32] (fun i wr => ∃ k : Nat, k ≤ r ∧ i = .int .i64 k ∧ PS w (.slice p n c) (.slice q r d) wr ∧ Blk wr g9 25 [.slice p1 n c2, .slice (some ⟨g2, 0, none⟩) r d2] ∧ NewP (w.heap.size + 2) wr p1 n c2 (some ⟨g2, 0, none⟩) r d2 R (maxTo W l k)) (fun i _ => r - (intOf i).toNat)
        case atStart => exact ⟨0, Nat.zero_le _, rfl, hS3, b9, by rw [maxTo_zero]; exact hnp3⟩
        case round =>
          obtain ⟨k, hk, rfl, hSk, bk, hnpk⟩ := hrel
          clear hS3 b9 hnp3
          by_cases hlt : k < r
          · have hlk := hl.below hSk.bel
            obtain ⟨bl, ol, rfl, hbl, hcl⟩ := hlk.at' (by omega)
            have fl := hcl k hlt
            have hk1 : (k : Int) < (r : Int) := by omega
            have f5 := hnpk.v.cellAt k (by omega)
            rw [valsI_get _ k (by rw [maxTo_length, HLW.out]; exact hlt), maxTo_at W l k (by rw [HLW.out]; exact hlt)] at f5
            have HM : Hid ((if eI W k < eI l k then eI l k else eI W k) = max (eI W k) (eI l k)) := max_if _ _
            have HT : Hid ((maxTo W l k).set k (max (eI W k) (eI l k)) = maxTo W l (k + 1)) := maxTo_set W l k (by rw [HLW.out]; exact hlt)
            clear hcl hlk
            go_wp2_with fail
            refine wp_region_noPanic ?_
            refine wp_region_held_drew (S := fun W' => PS w (.slice p n c) (.slice q r d) W' ∧ Blk W' g9 25 [.slice p1 n c2, .slice (some ⟨g2, 0, none⟩) r d2]) (by kernel_rfl) ⟨hSk.drew, bk.drew⟩ (fun hHeld => ?_)
            refine wpAnyH_take (i := 0) (v := ?_) rfl (by kernel_rfl) (by kernel_rfl) (by kernel_rfl) (fun _ _ _ h => h) (Or.inl ⟨by rfl, ?_⟩) hHeld ?_
            rotate_left
            · intro w' hSw; try dsimp only at hSw
              go_simp; try (with_reducible rfl)
            try simp only [Act.put, List.getElem_toArray, List.getElem_cons_succ, List.getElem_cons_zero, List.setIfInBounds_toArray, List.set_cons_zero, List.set_cons_succ]
            refine wpAnyH_take (i := 1) (v := ?_) rfl (by kernel_rfl) (by kernel_rfl) (by kernel_rfl) (fun _ _ _ h => h) (Or.inl ⟨by rfl, ?_⟩) hHeld ?_
            rotate_left
            · intro w' hSw; try dsimp only at hSw
              have e1 := hSw.2.cell' (i := 1) rfl
              go_simp; try (with_reducible rfl)
            try simp only [Act.put, List.getElem_toArray, List.getElem_cons_succ, List.getElem_cons_zero, List.setIfInBounds_toArray, List.set_cons_zero, List.set_cons_succ]
            refine wpAnyH_take (i := 2) (v := ?_) rfl (by kernel_rfl) (by kernel_rfl) (by kernel_rfl) (fun _ _ _ h => h) (Or.inl ⟨by rfl, ?_⟩) hHeld ?_
            rotate_left
            · intro w' hSw; try dsimp only at hSw
              go_simp; try (with_reducible rfl)
            try simp only [Act.put, List.getElem_toArray, List.getElem_cons_succ, List.getElem_cons_zero, List.setIfInBounds_toArray, List.set_cons_zero, List.set_cons_succ]
            refine wpAnyH_take (i := 3) (v := ?_) rfl (by kernel_rfl) (by kernel_rfl) (by kernel_rfl) (fun _ _ _ h => h) (Or.inl ⟨by rfl, ?_⟩) hHeld ?_
            rotate_left
            · intro w' hSw; try dsimp only at hSw
              go_simp; try (with_reducible rfl)
            try simp only [Act.put, List.getElem_toArray, List.getElem_cons_succ, List.getElem_cons_zero, List.setIfInBounds_toArray, List.set_cons_zero, List.set_cons_succ]
            refine wpAnyH_take (i := 4) (v := ?_) rfl (by kernel_rfl) (by kernel_rfl) (by kernel_rfl) (fun _ _ _ h => h) (Or.inl ⟨by rfl, ?_⟩) hHeld ?_
            rotate_left
            · intro w' hSw; try dsimp only at hSw
              have e1 := hSw.2.cell' (i := 1) rfl
              go_simp; try (with_reducible rfl)
            try simp only [Act.put, List.getElem_toArray, List.getElem_cons_succ, List.getElem_cons_zero, List.setIfInBounds_toArray, List.set_cons_zero, List.set_cons_succ]
            refine wpAnyH_take (i := 5) (v := ?_) rfl (by kernel_rfl) (by kernel_rfl) (by kernel_rfl) (fun _ _ _ h => h) (Or.inl ⟨by rfl, ?_⟩) hHeld ?_
            rotate_left
            · intro w' hSw; try dsimp only at hSw
              go_simp; try (with_reducible rfl)
            try simp only [Act.put, List.getElem_toArray, List.getElem_cons_succ, List.getElem_cons_zero, List.setIfInBounds_toArray, List.set_cons_zero, List.set_cons_succ]
            refine wpAnyH_take (i := 6) (v := ?_) rfl (by kernel_rfl) (by kernel_rfl) (by kernel_rfl) (fun _ _ _ h => h) (Or.inl ⟨by rfl, ?_⟩) hHeld ?_
            rotate_left
            · intro w' hSw; try dsimp only at hSw
              go_simp; try (with_reducible rfl)
            try simp only [Act.put, List.getElem_toArray, List.getElem_cons_succ, List.getElem_cons_zero, List.setIfInBounds_toArray, List.set_cons_zero, List.set_cons_succ]
            refine wpAnyH_take (i := 8) (v := ?_) rfl (by kernel_rfl) (by kernel_rfl) (by kernel_rfl) (fun _ _ _ h => h) (Or.inl ⟨by rfl, ?_⟩) hHeld ?_
            rotate_left
            · intro w' hSw; try dsimp only at hSw
              go_simp; try (with_reducible rfl)
            try simp only [Act.put, List.getElem_toArray, List.getElem_cons_succ, List.getElem_cons_zero, List.setIfInBounds_toArray, List.set_cons_zero, List.set_cons_succ]
            refine wpAnyH_ready (rs := [7]) (by kernel_rfl) (by simp) ?_
            refine AllReadyH.cons rfl (fun K hK => ?_) AllReadyH.nil
            go_simp
            refine hK.out _ _ hHeld (fun hHeld => ?_)
            clear hK K
            try simp only [Act.put, List.getElem_toArray, List.getElem_cons_succ, List.getElem_cons_zero, List.setIfInBounds_toArray, List.set_cons_zero, List.set_cons_succ]
            refine wpAnyH_ready (rs := [9]) (by kernel_rfl) (by simp) ?_
            refine AllReadyH.cons rfl (fun K hK => ?_) AllReadyH.nil
            go_simp
            refine hK.out _ _ hHeld (fun hHeld => ?_)
            clear hK K
            try simp only [Act.put, List.getElem_toArray, List.getElem_cons_succ, List.getElem_cons_zero, List.setIfInBounds_toArray, List.set_cons_zero, List.set_cons_succ]
            rw [HM.out]
            refine wpAnyH_take (i := 10) (v := ?_) rfl (by kernel_rfl) (by kernel_rfl) (by kernel_rfl) (fun _ _ _ h => h) (Or.inl ⟨by rfl, ?_⟩) hHeld ?_
            rotate_left
            · intro w' hSw; try dsimp only at hSw
              go_simp; try (with_reducible rfl)
            try simp only [Act.put, List.getElem_toArray, List.getElem_cons_succ, List.getElem_cons_zero, List.setIfInBounds_toArray, List.set_cons_zero, List.set_cons_succ]
            refine wpAnyH_ready (rs := [11]) (by kernel_rfl) (by simp) ?_
            refine AllReadyH.cons rfl (fun K hK => ?_) AllReadyH.nil
            rw [if_pos (by rfl)]
            refine wp_store_own 2 _ _ rfl g2 k _ rfl rfl hnpk.v.drew hlt size2 ?_
            intro w6 ho6 ht6
            rw [HT.out] at ho6
            refine hK.out _ _ ⟨hHeld.1.far ht6 hf0 hf1 hf2, hHeld.2.turned ht6 hg9⟩ (fun hHeld => ?_)
            clear hK K
            try simp only [Act.put, List.getElem_toArray, List.getElem_cons_succ, List.getElem_cons_zero, List.setIfInBounds_toArray, List.set_cons_zero, List.set_cons_succ]
            refine wpAnyH_done (by kernel_rfl) ?_ _
            refine NoPanic.normal ?_
            have hnp6 := NewP.setW (W := wr.drew) ⟨hnpk.r, hnpk.v, hnpk.hn, hnpk.hm, hnpk.ne⟩ ht6 ho6
            clear HM HT f5 fl hnpk ho6 ht6
            go_wp2_with fail
            go_roundw
            case rel => exact ⟨k + 1, by omega, by go_num, hHeld.1, hHeld.2, hnp6⟩
            case measure => simp [intOf]; omega
          · have hkr : k = r := by omega
            subst hkr
            have d0 := bk.cell' (i := 0) rfl
            have d1 := bk.cell' (i := 1) rfl
            obtain ⟨x8, y8, hres8⟩ := hSk.res
            go_wp2_with (refine wpList_store_blk rfl 25 (.tmp 4) (.tmp 49) rfl _ _ [.slice p1 n c2, .slice (some ⟨g2, 0, none⟩) k d2] rfl rfl hres8 (by simp) (poolSize _ _) one2 ?_; intro w8 h8 ht8; replace h8 : Blk w8 (w.heap.size + 1) 25 [.slice p1 n c2, .slice (some ⟨g2, 0, none⟩) k d2] := h8)
            rw [HS.out]
            exact ret_poolE Try.results25 rfl h8 rfl rfl ⟨_, _, _, _, _, _, rfl, (hnpk.turned ht8 (hnpk.far (by omega))).low (by omega), ht8.below hSk.bel (by omega)⟩
    · have HS : Hid (wearsS R W l = ([], [], 1)) := wearsS_arg hok (fun h => hrm (by rw [← HLl.out, ← HLW.out]; exact h.1))
      have hne : ((r : Int) != (m : Int)) = true := by rw [bne_iff_ne]; omega
      clear hrm
      go_enter Try.func25, Try.ntmps25
      go_wp2_with (first
        | (go_at_call 14; refine (check_any p q n c _ d R W _ (hR.below hS.bel) (hW.below hS.bel)).mono ?_; rintro e w1 ⟨rfl, hb1⟩; rw [HE.out]; have hS1 := hS.next hb1; have c0 := hS1.box.cell' (i := 0) rfl; have c1 := hS1.box.cell' (i := 1) rfl; obtain ⟨x, y, hres⟩ := hS1.res)
        | (refine wpList_store_blk rfl 25 (.tmp 4) (.tmp 27) rfl _ _ [.slice none 0 0, .slice none 0 0] rfl rfl hres (by simp) (poolSize _ _) one2 ?_; intro w9 h9 ht9; replace h9 : Blk w9 (w.heap.size + 1) 25 [.slice none 0 0, .slice none 0 0] := h9))
      rw [HS.out]
      exact ret_poolE Try.results25 rfl h9 rfl rfl ⟨_, _, _, _, _, _, rfl, NewP.zero _ _, ht9.below hS1.bel (by omega)⟩
end Go.Proofs.Ytigkfmdhmonjlaa
