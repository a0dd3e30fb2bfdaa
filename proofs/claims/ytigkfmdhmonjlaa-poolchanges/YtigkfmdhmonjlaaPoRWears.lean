/-
  What the reference's Wears answers.
-/
import Derived.Test.YtigkfmdhmonjlaaPoWears
namespace Go.Proofs.Ytigkfmdhmonjlaa
open Go.RowKit
set_option linter.unusedSimpArgs false in
set_option maxHeartbeats 2000000 in
theorem rwears_any (p q s : Option Addr) (n c m d r e : Nat) (R W l : List Int) (w : World) (hR : InI w p n c R) (hW : InI w q m d W) (hl : InI w s r e l) :
    Calls Try.prog 26 #[.agg #[.slice p n c, .slice q m d], .slice s r e] w (PoolRes w (wearsS R W l)) := by
  have HL : Hid (R.length = n) := hR.len
  have HLW : Hid (W.length = m) := hW.len
  have HLl : Hid (l.length = r) := hl.len
  have hS := PS.start w (.slice p n c) (.slice q m d) (.slice none 0 0) (.slice none 0 0)
  cases hok : okPool R W with
  | false =>
    have HE : Hid (checkE R W = 40) := checkE_no hok
    have HS : Hid (wearsS R W l = ([], [], 40)) := wearsS_no hok
    go_enter Try.func26, Try.ntmps26
    go_wp2_with (first
      | (go_at_call 15; refine (rcheck_any p q n c _ d R W _ (hR.below hS.bel) (hW.below hS.bel)).mono ?_; rintro e w1 ⟨rfl, hb1⟩; rw [HE.out]; have hS1 := hS.next hb1; have c0 := hS1.box.cell' (i := 0) rfl; have c1 := hS1.box.cell' (i := 1) rfl; obtain ⟨x, y, hres⟩ := hS1.res)
      | (refine wpList_store_blk rfl 25 (.tmp 4) (.tmp 10) rfl _ _ [.slice none 0 0, .slice none 0 0] rfl rfl hres (by simp) (poolSize _ _) one2 ?_; intro w9 h9 ht9; replace h9 : Blk w9 (w.heap.size + 1) 25 [.slice none 0 0, .slice none 0 0] := h9))
    rw [HS.out]
    exact ret_poolE Try.results26 rfl h9 rfl rfl ⟨_, _, _, _, _, _, rfl, NewP.zero _ _, ht9.below hS1.bel (by omega)⟩
  | true =>
    have HE : Hid (checkE R W = 0) := checkE_ok hok
    have HN : Hid (n ≤ 256 ∧ m ≤ 256 ∧ 16 ≤ n ∧ 16 ≤ m) := by have := (okPool_iff.1 hok).1; rw [HL.out, HLW.out] at this; exact ⟨by omega, by omega, by omega, by omega⟩
    go_enter Try.func26, Try.ntmps26
    go_upto_region 4 with (first
      | (go_at_call 15; refine (rcheck_any p q n c _ d R W _ (hR.below hS.bel) (hW.below hS.bel)).mono ?_; rintro e w1 ⟨rfl, hb1⟩; rw [HE.out]; have hS1 := hS.next hb1; have c0 := hS1.box.cell' (i := 0) rfl; have c1 := hS1.box.cell' (i := 1) rfl; obtain ⟨x, y, hres⟩ := hS1.res)
      | (go_at_call 38; refine (rclone_any p q n c m d R W _ (hR.below hS1.bel) (hW.below hS1.bel) (by have := HN.out; omega) (by have := HN.out; omega)).mono ?_; rintro e w2 ⟨p1, c2, q1, d2, rfl, hnp, hb2⟩; have hS2 := hS1.next hb2)
      | (refine wpList_store_blk rfl 25 (.tmp 2) (.tmp 12) rfl _ _ [.slice p1 n c2, .slice q1 m d2] rfl rfl hS2.box (by simp) (poolSize _ _) one2 ?_; intro w9 h9 ht9; replace h9 : Blk w9 w.heap.size 25 [.slice p1 n c2, .slice q1 m d2] := h9))
    have hlow : w.heap.size + 2 ≤ w1.heap.size := by have := hres.lt; omega
    have hnp3 := (hnp.low hlow).turned ht9 ((hnp.low hlow).far (by omega))
    have hS3 := hS2.boxed ht9 h9
    have hN := HN.out
    obtain ⟨g2, rfl, hg2⟩ := owns_at hnp3.v (by omega)
    have hf0 : w.heap.size ≠ g2 := by omega
    have hf1 : w.heap.size + 1 ≠ g2 := by omega
    have hf2 : w.heap.size ≤ g2 := by omega
    clear hnp hb2 hb1 hS2 hS1 hS hR hW hlow c0 c1 hres hN hg2 h9 ht9
    have hr47 := hl.room
    have c0 := hS3.box.cell' (i := 0) rfl
    have c1 := hS3.box.cell' (i := 1) rfl
    by_cases hrm : r = m
    · subst hrm
      go_wp2_with fail
      go_loopw [6] (fun i wr => ∃ k : Nat, k ≤ r ∧ i = .int .i64 k ∧ PS w (.slice p1 n c2) (.slice (some ⟨g2, 0, none⟩) r d2) wr ∧ NewP (w.heap.size + 2) wr p1 n c2 (some ⟨g2, 0, none⟩) r d2 R (maxTo W l k) ∧ ∀ j, j < k → okWear (eI l j) = true) (fun i _ => r - (intOf i).toNat)
      case atStart => exact ⟨0, Nat.zero_le _, rfl, hS3, by rw [maxTo_zero]; exact hnp3, fun j h => by omega⟩
      case round =>
        obtain ⟨k, hk, rfl, hSk, hnpk, hall⟩ := hrel
        have HA : Hid (∀ j, j < k → okWear (eI l j) = true) := hall
        clear hS3 hnp3 hall c0 c1
        by_cases hlt : k < r
        · have hlk := hl.below hSk.bel
          obtain ⟨bl, ol, rfl, hbl, hcl⟩ := hlk.at' (by omega)
          have fl := hcl k hlt
          have hk1 : (k : Int) < (r : Int) := by omega
          clear hcl hlk
          cases hok2 : okWear (eI l k) with
          | true =>
            have how := okWear_iff.1 hok2
            have h3 : ¬ eI l k < 0 := by omega
            have h4 : ¬ 16777215 < eI l k := by omega
            have HO : Hid (okWear (eI l k) = true) := hok2
            clear hok2 how
            have f5 := hnpk.v.cellAt k (by omega)
            rw [valsI_get _ k (by rw [maxTo_length, HLW.out]; exact hlt), maxTo_at W l k (by rw [HLW.out]; exact hlt)] at f5
            have HM : Hid ((if eI W k < eI l k then eI l k else eI W k) = max (eI W k) (eI l k)) := max_if _ _
            have HT : Hid ((maxTo W l k).set k (max (eI W k) (eI l k)) = maxTo W l (k + 1)) := maxTo_set W l k (by rw [HLW.out]; exact hlt)
            go_wp2_with fail
            refine wp_region_noPanic ?_
            refine wp_region_held_drew (S := PS w (.slice p1 n c2) (.slice (some ⟨g2, 0, none⟩) r d2)) (by kernel_rfl) hSk.drew (fun hHeld => ?_)
            refine wpAnyH_take (i := 0) (v := ?_) rfl (by kernel_rfl) (by kernel_rfl) (by kernel_rfl) (fun _ _ _ h => h) (Or.inl ⟨by rfl, ?_⟩) hHeld ?_
            rotate_left
            · intro w' hSw; try dsimp only at hSw
              go_simp; try (with_reducible rfl)
            try simp only [Act.put, List.getElem_toArray, List.getElem_cons_succ, List.getElem_cons_zero, List.setIfInBounds_toArray, List.set_cons_zero, List.set_cons_succ]
            refine wpAnyH_take (i := 1) (v := ?_) rfl (by kernel_rfl) (by kernel_rfl) (by kernel_rfl) (fun _ _ _ h => h) (Or.inl ⟨by rfl, ?_⟩) hHeld ?_
            rotate_left
            · intro w' hSw; try dsimp only at hSw
              have e1 := hSw.box.cell' (i := 1) rfl
              go_simp; try (with_reducible rfl)
            try simp only [Act.put, List.getElem_toArray, List.getElem_cons_succ, List.getElem_cons_zero, List.setIfInBounds_toArray, List.set_cons_zero, List.set_cons_succ]
            refine wpAnyH_take (i := 2) (v := ?_) rfl (by kernel_rfl) (by kernel_rfl) (by kernel_rfl) (fun _ _ _ h => h) (Or.inl ⟨by rfl, ?_⟩) hHeld ?_
            rotate_left
            · intro w' hSw; try dsimp only at hSw
              go_simp; try (with_reducible rfl)
            try simp only [Act.put, List.getElem_toArray, List.getElem_cons_succ, List.getElem_cons_zero, List.setIfInBounds_toArray, List.set_cons_zero, List.set_cons_succ]
            refine wpAnyH_take (i := 3) (v := ?_) rfl (by kernel_rfl) (by kernel_rfl) (by kernel_rfl) (fun _ _ _ h => h) (Or.inl ⟨by rfl, ?_⟩) hHeld ?_
            rotate_left
            · intro w' hSw; try dsimp only at hSw
              go_simp; try (with_reducible rfl)
            try simp only [Act.put, List.getElem_toArray, List.getElem_cons_succ, List.getElem_cons_zero, List.setIfInBounds_toArray, List.set_cons_zero, List.set_cons_succ]
            refine wpAnyH_take (i := 4) (v := ?_) rfl (by kernel_rfl) (by kernel_rfl) (by kernel_rfl) (fun _ _ _ h => h) (Or.inl ⟨by rfl, ?_⟩) hHeld ?_
            rotate_left
            · intro w' hSw; try dsimp only at hSw
              have e1 := hSw.box.cell' (i := 1) rfl
              go_simp; try (with_reducible rfl)
            try simp only [Act.put, List.getElem_toArray, List.getElem_cons_succ, List.getElem_cons_zero, List.setIfInBounds_toArray, List.set_cons_zero, List.set_cons_succ]
            refine wpAnyH_take (i := 5) (v := ?_) rfl (by kernel_rfl) (by kernel_rfl) (by kernel_rfl) (fun _ _ _ h => h) (Or.inl ⟨by rfl, ?_⟩) hHeld ?_
            rotate_left
            · intro w' hSw; try dsimp only at hSw
              go_simp; try (with_reducible rfl)
            try simp only [Act.put, List.getElem_toArray, List.getElem_cons_succ, List.getElem_cons_zero, List.setIfInBounds_toArray, List.set_cons_zero, List.set_cons_succ]
            refine wpAnyH_take (i := 6) (v := ?_) rfl (by kernel_rfl) (by kernel_rfl) (by kernel_rfl) (fun _ _ _ h => h) (Or.inl ⟨by rfl, ?_⟩) hHeld ?_
            rotate_left
            · intro w' hSw; try dsimp only at hSw
              go_simp; try (with_reducible rfl)
            try simp only [Act.put, List.getElem_toArray, List.getElem_cons_succ, List.getElem_cons_zero, List.setIfInBounds_toArray, List.set_cons_zero, List.set_cons_succ]
            refine wpAnyH_take (i := 8) (v := ?_) rfl (by kernel_rfl) (by kernel_rfl) (by kernel_rfl) (fun _ _ _ h => h) (Or.inl ⟨by rfl, ?_⟩) hHeld ?_
            rotate_left
            · intro w' hSw; try dsimp only at hSw
              go_simp; try (with_reducible rfl)
            try simp only [Act.put, List.getElem_toArray, List.getElem_cons_succ, List.getElem_cons_zero, List.setIfInBounds_toArray, List.set_cons_zero, List.set_cons_succ]
            refine wpAnyH_take (i := 9) (v := ?_) rfl (by kernel_rfl) (by kernel_rfl) (by kernel_rfl) (fun _ _ _ h => h) (Or.inl ⟨by rfl, ?_⟩) hHeld ?_
            rotate_left
            · intro w' hSw; try dsimp only at hSw
              go_simp; try (with_reducible rfl)
            try simp only [Act.put, List.getElem_toArray, List.getElem_cons_succ, List.getElem_cons_zero, List.setIfInBounds_toArray, List.set_cons_zero, List.set_cons_succ]
            refine wpAnyH_take (i := 10) (v := ?_) rfl (by kernel_rfl) (by kernel_rfl) (by kernel_rfl) (fun _ _ _ h => h) (Or.inl ⟨by rfl, ?_⟩) hHeld ?_
            rotate_left
            · intro w' hSw; try dsimp only at hSw
              go_simp; try (with_reducible rfl)
            try simp only [Act.put, List.getElem_toArray, List.getElem_cons_succ, List.getElem_cons_zero, List.setIfInBounds_toArray, List.set_cons_zero, List.set_cons_succ]
            refine wpAnyH_ready (rs := [7, 11]) (by kernel_rfl) (by simp) ?_
            refine AllReadyH.cons rfl (fun K hK => ?_) ?_
            · go_simp
              refine hK.out _ _ hHeld (fun hHeld => ?_)
              clear hK K
              try simp only [Act.put, List.getElem_toArray, List.getElem_cons_succ, List.getElem_cons_zero, List.setIfInBounds_toArray, List.set_cons_zero, List.set_cons_succ]
              refine wpAnyH_ready (rs := [11]) (by kernel_rfl) (by simp) ?_
              refine AllReadyH.cons rfl (fun K hK => ?_) AllReadyH.nil
              go_simp
              refine hK.out _ _ hHeld (fun hHeld => ?_)
              clear hK K
              try simp only [Act.put, List.getElem_toArray, List.getElem_cons_succ, List.getElem_cons_zero, List.setIfInBounds_toArray, List.set_cons_zero, List.set_cons_succ]
              refine wpAnyH_ready (rs := [12]) (by kernel_rfl) (by simp) ?_
              refine AllReadyH.cons rfl (fun K hK => ?_) AllReadyH.nil
              go_simp
              refine hK.out _ _ hHeld (fun hHeld => ?_)
              clear hK K
              try simp only [Act.put, List.getElem_toArray, List.getElem_cons_succ, List.getElem_cons_zero, List.setIfInBounds_toArray, List.set_cons_zero, List.set_cons_succ]
              rw [HM.out]
              refine wpAnyH_take (i := 13) (v := ?_) rfl (by kernel_rfl) (by kernel_rfl) (by kernel_rfl) (fun _ _ _ h => h) (Or.inl ⟨by rfl, ?_⟩) hHeld ?_
              rotate_left
              · intro w' hSw; try dsimp only at hSw
                go_simp; try (with_reducible rfl)
              try simp only [Act.put, List.getElem_toArray, List.getElem_cons_succ, List.getElem_cons_zero, List.setIfInBounds_toArray, List.set_cons_zero, List.set_cons_succ]
              refine wpAnyH_ready (rs := [14]) (by kernel_rfl) (by simp) ?_
              refine AllReadyH.cons rfl (fun K hK => ?_) AllReadyH.nil
              rw [if_pos (by rfl)]
              refine wp_store_own 2 _ _ rfl g2 k _ rfl rfl hnpk.v.drew hlt size2 ?_
              intro w6 ho6 ht6
              rw [HT.out] at ho6
              refine hK.out _ _ (hHeld.far ht6 hf0 hf1 hf2) (fun hHeld => ?_)
              clear hK K
              try simp only [Act.put, List.getElem_toArray, List.getElem_cons_succ, List.getElem_cons_zero, List.setIfInBounds_toArray, List.set_cons_zero, List.set_cons_succ]
              refine wpAnyH_done (by kernel_rfl) ?_ _
              refine NoPanic.normal ?_
              have hnp6 := NewP.setW (W := wr.drew) ⟨hnpk.r, hnpk.v, hnpk.hn, hnpk.hm, hnpk.ne⟩ ht6 ho6
              clear HM HT f5 fl hnpk ho6 ht6
              go_wp2_with fail
              go_roundw
              case rel =>
                refine ⟨k + 1, by omega, by go_num, hHeld, hnp6, fun j hj => ?_⟩
                rcases Nat.lt_succ_iff_lt_or_eq.1 hj with h | h
                · exact HA.out j h
                · rw [h]; exact HO.out
              case measure => simp [intOf]; omega
            refine AllReadyH.cons rfl (fun K hK => ?_) AllReadyH.nil
            go_simp
            refine hK.out _ _ hHeld (fun hHeld => ?_)
            clear hK K
            try simp only [Act.put, List.getElem_toArray, List.getElem_cons_succ, List.getElem_cons_zero, List.setIfInBounds_toArray, List.set_cons_zero, List.set_cons_succ]
            refine wpAnyH_ready (rs := [7]) (by kernel_rfl) (by simp) ?_
            refine AllReadyH.cons rfl (fun K hK => ?_) AllReadyH.nil
            go_simp
            refine hK.out _ _ hHeld (fun hHeld => ?_)
            clear hK K
            try simp only [Act.put, List.getElem_toArray, List.getElem_cons_succ, List.getElem_cons_zero, List.setIfInBounds_toArray, List.set_cons_zero, List.set_cons_succ]
            refine wpAnyH_ready (rs := [12]) (by kernel_rfl) (by simp) ?_
            refine AllReadyH.cons rfl (fun K hK => ?_) AllReadyH.nil
            go_simp
            refine hK.out _ _ hHeld (fun hHeld => ?_)
            clear hK K
            try simp only [Act.put, List.getElem_toArray, List.getElem_cons_succ, List.getElem_cons_zero, List.setIfInBounds_toArray, List.set_cons_zero, List.set_cons_succ]
            rw [HM.out]
            refine wpAnyH_take (i := 13) (v := ?_) rfl (by kernel_rfl) (by kernel_rfl) (by kernel_rfl) (fun _ _ _ h => h) (Or.inl ⟨by rfl, ?_⟩) hHeld ?_
            rotate_left
            · intro w' hSw; try dsimp only at hSw
              go_simp; try (with_reducible rfl)
            try simp only [Act.put, List.getElem_toArray, List.getElem_cons_succ, List.getElem_cons_zero, List.setIfInBounds_toArray, List.set_cons_zero, List.set_cons_succ]
            refine wpAnyH_ready (rs := [14]) (by kernel_rfl) (by simp) ?_
            refine AllReadyH.cons rfl (fun K hK => ?_) AllReadyH.nil
            rw [if_pos (by rfl)]
            refine wp_store_own 2 _ _ rfl g2 k _ rfl rfl hnpk.v.drew hlt size2 ?_
            intro w6 ho6 ht6
            rw [HT.out] at ho6
            refine hK.out _ _ (hHeld.far ht6 hf0 hf1 hf2) (fun hHeld => ?_)
            clear hK K
            try simp only [Act.put, List.getElem_toArray, List.getElem_cons_succ, List.getElem_cons_zero, List.setIfInBounds_toArray, List.set_cons_zero, List.set_cons_succ]
            refine wpAnyH_done (by kernel_rfl) ?_ _
            refine NoPanic.normal ?_
            have hnp6 := NewP.setW (W := wr.drew) ⟨hnpk.r, hnpk.v, hnpk.hn, hnpk.hm, hnpk.ne⟩ ht6 ho6
            clear HM HT f5 fl hnpk ho6 ht6
            go_wp2_with fail
            go_roundw
            case rel =>
              refine ⟨k + 1, by omega, by go_num, hHeld, hnp6, fun j hj => ?_⟩
              rcases Nat.lt_succ_iff_lt_or_eq.1 hj with h | h
              · exact HA.out j h
              · rw [h]; exact HO.out
            case measure => simp [intOf]; omega
          | false =>
            have HS : Hid (wearsS R W l = ([], [], 1)) := wearsS_arg hok (fun h => by rw [eI_all.1 h.2 k (by rw [HLl.out]; exact hlt)] at hok2; cases hok2)
            have hnn := okWear_no hok2
            clear hok2 hok
            obtain ⟨x8, y8, hres⟩ := hSk.res
            rcases hnn with h3 | h4
            · go_wp2_with (refine wpList_store_blk rfl 25 (.tmp 4) (.tmp 38) rfl _ _ [.slice none 0 0, .slice none 0 0] rfl rfl hres (by simp) (poolSize _ _) one2 ?_; intro w8 h8 ht8; replace h8 : Blk w8 (w.heap.size + 1) 25 [.slice none 0 0, .slice none 0 0] := h8)
              rw [HS.out]
              exact ret_poolE Try.results26 rfl h8 rfl rfl ⟨_, _, _, _, _, _, rfl, NewP.zero _ _, ht8.below hSk.bel (by omega)⟩
            · have h3 : ¬ eI l k < 0 := by omega
              go_wp2_with (refine wpList_store_blk rfl 25 (.tmp 4) (.tmp 38) rfl _ _ [.slice none 0 0, .slice none 0 0] rfl rfl hres (by simp) (poolSize _ _) one2 ?_; intro w8 h8 ht8; replace h8 : Blk w8 (w.heap.size + 1) 25 [.slice none 0 0, .slice none 0 0] := h8)
              rw [HS.out]
              exact ret_poolE Try.results26 rfl h8 rfl rfl ⟨_, _, _, _, _, _, rfl, NewP.zero _ _, ht8.below hSk.bel (by omega)⟩
        · have hkr : k = r := by omega
          subst hkr
          have HS : Hid (wearsS R W l = (R, maxTo W l k, 0)) := by show _ = _; rw [wearsS_ok hok ⟨by rw [HLl.out, HLW.out], eI_all.2 fun j hj => HA.out j (by have := HLl.out; omega)⟩, HLW.out]
          have d0 := hSk.box.cell' (i := 0) rfl
          have d1 := hSk.box.cell' (i := 1) rfl
          obtain ⟨x8, y8, hres8⟩ := hSk.res
          go_wp2_with (refine wpList_store_blk rfl 25 (.tmp 4) (.tmp 53) rfl _ _ [.slice p1 n c2, .slice (some ⟨g2, 0, none⟩) k d2] rfl rfl hres8 (by simp) (poolSize _ _) one2 ?_; intro w8 h8 ht8; replace h8 : Blk w8 (w.heap.size + 1) 25 [.slice p1 n c2, .slice (some ⟨g2, 0, none⟩) k d2] := h8)
          rw [HS.out]
          exact ret_poolE Try.results26 rfl h8 rfl rfl ⟨_, _, _, _, _, _, rfl, (hnpk.turned ht8 (hnpk.far (by omega))).low (by omega), ht8.below hSk.bel (by omega)⟩
    · have HS : Hid (wearsS R W l = ([], [], 1)) := wearsS_arg hok (fun h => hrm (by rw [← HLl.out, ← HLW.out]; exact h.1))
      have hne : ((r : Int) != (m : Int)) = true := by rw [bne_iff_ne]; omega
      clear hrm
      obtain ⟨x, y, hres⟩ := hS3.res
      go_wp2_with (refine wpList_store_blk rfl 25 (.tmp 4) (.tmp 19) rfl _ _ [.slice none 0 0, .slice none 0 0] rfl rfl hres (by simp) (poolSize _ _) one2 ?_; intro w8 h8 ht8; replace h8 : Blk w8 (w.heap.size + 1) 25 [.slice none 0 0, .slice none 0 0] := h8)
      rw [HS.out]
      exact ret_poolE Try.results26 rfl h8 rfl rfl ⟨_, _, _, _, _, _, rfl, NewP.zero _ _, ht8.below hS3.bel (by omega)⟩
end Go.Proofs.Ytigkfmdhmonjlaa
