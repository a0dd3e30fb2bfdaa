/-
  What layout.EncodeDescs answers.
-/
import Derived.Test.YtbimcdaplnmjdaaLyD
import Derived.Test.YtbimcdaplnmjdaaLyDec
namespace Go.Proofs.Ytbimcdaplnmjdaa
open Go.RowKit
theorem all_take {l : List Dsc} {k : Nat} (h : ∀ i, i < k → dOk (eD l i) = true) (hk : k ≤ l.length) : ∀ d ∈ l.take k, dOk d = true := by
  intro d hd
  obtain ⟨i, hi, rfl⟩ := List.getElem_of_mem hd
  rw [List.length_take] at hi
  have := h i (by omega)
  rw [List.getElem_take]
  simpa [eD, show i < l.length by omega] using this
set_option linter.unusedSimpArgs false in
set_option maxHeartbeats 16000000 in
set_option maxRecDepth 100000 in
theorem encodeDescs_any (p : Option Addr) (n c : Nat) (l : List Dsc) (w : World) (hx : InD w p n c l) (hr : ∀ d ∈ l, d.rng) : Calls Try.prog 37 #[.slice p n c] w fun e w' => ∃ p' n' c', e = .returned (.tuple #[.slice p' n' c', .int .i64 (edE l)]) ∧ In w' p' n' c' (edL l) ∧ Below w.heap.size w w' := by
  have HL : Hid (l.length = n) := hx.len
  have hroom := hx.room
  obtain ⟨i0, hi, hz0, hz1, hz2⟩ := info_parts info5
  by_cases hn : n ≤ 16
  · have hn1 : ¬ (16 : Int) < (n : Int) := by omega
    go_enter Try.func37, Try.ntmps37
    go_wp2_with (at_make; refine wpList_make_full _ rfl _ _ 44 rfl w.heap.size 5 i0 (.int .u8 0) 1 Try.underlying44 hi hz0 hz1 .i64 .i64 _ _ 256 rfl rfl rfl rfl (by rw [hz2]; omega) (by unfold maxLen; omega) (Nat.le_refl _) ?_; intro w1 hown1 hgrow1)
    have g1 : Blk w1 w.heap.size 5 (vals (edB [])) := owns_block (made_owns hown1)
    have hb1 := below_grown0 hgrow1
    clear hown1 hgrow1
    go_loopw [15] (fun i wr => ∃ k : Nat, k ≤ n ∧ i = .int .i64 k ∧ (∀ i, i < k → dOk (eD l i) = true) ∧ Blk wr w.heap.size 5 (vals (edB (l.take k))) ∧ Below w.heap.size w wr) (fun i _ => n - (intOf i).toNat)
    case atStart => exact ⟨0, Nat.zero_le _, rfl, fun i h => by omega, g1, hb1⟩
    case round =>
      obtain ⟨k, hk, rfl, hall, hgb, hbel⟩ := hrel
      clear g1 hb1
      have HA : Hid (∀ i, i < k → dOk (eD l i) = true) := hall
      clear hall
      by_cases hlt : k < n
      · have hkl : k < l.length := by rw [HL.out]; exact hlt
        have hxr := hx.below hbel
        obtain ⟨b, o, hpe, hbl, hc⟩ := hxr.at' (by omega)
        subst hpe
        obtain ⟨e0, e1, e2⟩ := hc k hlt
        have hrg := hr _ (eD_mem hkl)
        have HTK : Hid (l.take (k + 1) = l.take k ++ [eD l k]) := takeD_succ l k hkl
        have HDK : Hid (eD l k = eD l k) := rfl
        have HALL : Hid (∀ d ∈ l.take k, packOk wsD (vsD d) = true) := fun d hd => by
          rw [packD_ok (hr d (List.mem_of_mem_take hd))]
          exact all_take HA.out (by omega) d hd
        have HTL : Hid ((l.take k).length = k) := by show _ = _; rw [List.length_take]; omega
        have HLB : Hid ((edB (l.take k)).length = 256) := edB_length HALL.out (by rw [HTL.out]; omega)
        obtain ⟨D, HD⟩ : ∃ D, Hid (eD l k = D) := ⟨_, rfl⟩
        have HKM : Hid (D ∈ l) := by show _ ∈ _; rw [← HD.out]; exact eD_mem hkl
        rw [HD.out] at e0 e1 e2 hrg HTK
        have hu0 := (uN_wrap D.x).1
        have hu1 := (uN_wrap D.y).1
        have hu2 := (uN_wrap D.z).1
        have HLIM : Hid (∀ x ∈ vsD D, x < 18446744073709551616) := vsD_lim D
        have hPO := packD_ok hrg
        obtain ⟨q, HQ⟩ : ∃ q : Nat, Hid (k * 16 = q) := ⟨_, rfl⟩
        have hk16 : (k : Int) * 16 = (q : Int) := by have := HQ.out; omega
        have hq240 : q ≤ 240 := by have := HQ.out; omega
        clear hc HDK
        go_upto_region 7 with fail
        have k2 := Blk.new' wr 58 #[.int .i64 D.x, .int .i64 D.y, .int .i64 D.z]
        have hBr := below_alloc wr (.cells #[.int .i64 D.x, .int .i64 D.y, .int .i64 D.z] 58)
        generalize hV : wr.alloc (.cells #[.int .i64 D.x, .int .i64 D.y, .int .i64 D.z] 58) = V at *
        clear hV
        cases hdk : dOk D with
        | true =>
          rw [hdk] at hPO
          have HPO : Hid (packOk wsD (vsD D) = true) := hPO
          have HPE : Hid (packE wsD (vsD D) = 0) := by show _ = _; unfold packE; rw [if_pos HPO.out]
          have HP6 : Hid ((packL wsD (vsD D)).length = 6) := by show _ = _; rw [packL_length HPO.out, wsD_bytes]
          have HLN : Hid (layAt (edB (l.take k)) (packL wsD (vsD D)) q (256 - q) = edB (l.take (k + 1))) := by
            show _ = _
            rw [← HQ.out]
            have := lay_next HALL.out HPO.out (by rw [HTL.out]; omega)
            rw [HTL.out] at this
            rw [this, HTK.out]
          have HDK : Hid (dOk (eD l k) = true) := by show _ = _; rw [HD.out]; exact hdk
          clear hPO hdk
          refine wp_region_noPanic ?_
          refine wp_region_held_drew (S := fun X => Blk X wr.heap.size 58 [.int .i64 D.x, .int .i64 D.y, .int .i64 D.z]) (by kernel_rfl) k2.drew (fun hHeld => ?_)
          refine wpAnyH_take (i := 1) (v := ?_) rfl (by kernel_rfl) (by kernel_rfl) (by kernel_rfl) (fun _ _ _ h => h) (Or.inl ⟨by kernel_rfl, ?_⟩) hHeld ?_
          rotate_left
          · intro w' hSw; try dsimp only at hSw
            go_simp; try (with_reducible rfl)
          try simp only [Act.put, List.getElem_toArray, List.getElem_cons_succ, List.getElem_cons_zero, List.setIfInBounds_toArray, List.set_cons_zero, List.set_cons_succ]
          refine wpAnyH_take (i := 2) (v := ?_) rfl (by kernel_rfl) (by kernel_rfl) (by kernel_rfl) (fun _ _ _ h => h) (Or.inl ⟨by kernel_rfl, ?_⟩) hHeld ?_
          rotate_left
          · intro w' hSw; try dsimp only at hSw
            have c0 := hSw.cell' (i := 0) rfl
            have c1 := hSw.cell' (i := 1) rfl
            have c2 := hSw.cell' (i := 2) rfl
            go_simp; try (with_reducible rfl)
          try simp only [Act.put, List.getElem_toArray, List.getElem_cons_succ, List.getElem_cons_zero, List.setIfInBounds_toArray, List.set_cons_zero, List.set_cons_succ]
          refine wpAnyH_take (i := 3) (v := ?_) rfl (by kernel_rfl) (by kernel_rfl) (by kernel_rfl) (fun _ _ _ h => h) (Or.inl ⟨by kernel_rfl, ?_⟩) hHeld ?_
          rotate_left
          · intro w' hSw; try dsimp only at hSw
            go_simp; try (with_reducible rfl)
          try simp only [Act.put, List.getElem_toArray, List.getElem_cons_succ, List.getElem_cons_zero, List.setIfInBounds_toArray, List.set_cons_zero, List.set_cons_succ]
          refine wpAnyH_take (i := 4) (v := ?_) rfl (by kernel_rfl) (by kernel_rfl) (by kernel_rfl) (fun _ _ _ h => h) (Or.inl ⟨by kernel_rfl, ?_⟩) hHeld ?_
          rotate_left
          · intro w' hSw; try dsimp only at hSw
            go_simp; try (with_reducible rfl)
          try simp only [Act.put, List.getElem_toArray, List.getElem_cons_succ, List.getElem_cons_zero, List.setIfInBounds_toArray, List.set_cons_zero, List.set_cons_succ]
          refine wpAnyH_take (i := 5) (v := ?_) rfl (by kernel_rfl) (by kernel_rfl) (by kernel_rfl) (fun _ _ _ h => h) (Or.inl ⟨by kernel_rfl, ?_⟩) hHeld ?_
          rotate_left
          · intro w' hSw; try dsimp only at hSw
            have c0 := hSw.cell' (i := 0) rfl
            have c1 := hSw.cell' (i := 1) rfl
            have c2 := hSw.cell' (i := 2) rfl
            go_simp; try (with_reducible rfl)
          try simp only [Act.put, List.getElem_toArray, List.getElem_cons_succ, List.getElem_cons_zero, List.setIfInBounds_toArray, List.set_cons_zero, List.set_cons_succ]
          refine wpAnyH_take (i := 6) (v := ?_) rfl (by kernel_rfl) (by kernel_rfl) (by kernel_rfl) (fun _ _ _ h => h) (Or.inl ⟨by kernel_rfl, ?_⟩) hHeld ?_
          rotate_left
          · intro w' hSw; try dsimp only at hSw
            go_simp; try (with_reducible rfl)
          try simp only [Act.put, List.getElem_toArray, List.getElem_cons_succ, List.getElem_cons_zero, List.setIfInBounds_toArray, List.set_cons_zero, List.set_cons_succ]
          refine wpAnyH_take (i := 7) (v := ?_) rfl (by kernel_rfl) (by kernel_rfl) (by kernel_rfl) (fun _ _ _ h => h) (Or.inl ⟨by kernel_rfl, ?_⟩) hHeld ?_
          rotate_left
          · intro w' hSw; try dsimp only at hSw
            go_simp; try (with_reducible rfl)
          try simp only [Act.put, List.getElem_toArray, List.getElem_cons_succ, List.getElem_cons_zero, List.setIfInBounds_toArray, List.set_cons_zero, List.set_cons_succ]
          refine wpAnyH_take (i := 8) (v := ?_) rfl (by kernel_rfl) (by kernel_rfl) (by kernel_rfl) (fun _ _ _ h => h) (Or.inl ⟨by kernel_rfl, ?_⟩) hHeld ?_
          rotate_left
          · intro w' hSw; try dsimp only at hSw
            have c0 := hSw.cell' (i := 0) rfl
            have c1 := hSw.cell' (i := 1) rfl
            have c2 := hSw.cell' (i := 2) rfl
            go_simp; try (with_reducible rfl)
          try simp only [Act.put, List.getElem_toArray, List.getElem_cons_succ, List.getElem_cons_zero, List.setIfInBounds_toArray, List.set_cons_zero, List.set_cons_succ]
          refine wpAnyH_take (i := 9) (v := ?_) rfl (by kernel_rfl) (by kernel_rfl) (by kernel_rfl) (fun _ _ _ h => h) (Or.inl ⟨by kernel_rfl, ?_⟩) hHeld ?_
          rotate_left
          · intro w' hSw; try dsimp only at hSw
            go_simp; try (with_reducible rfl)
          try simp only [Act.put, List.getElem_toArray, List.getElem_cons_succ, List.getElem_cons_zero, List.setIfInBounds_toArray, List.set_cons_zero, List.set_cons_succ]
          refine wpAnyH_ready (rs := [0, 10]) (by kernel_rfl) (by simp) ?_
          refine AllReadyH.cons rfl (fun K hK => ?_) ?_
          · go_simp
            refine (descW_any _).mono ?_
            rintro e w5 ⟨p5, rfl, hin5, hb5⟩
            have k5 := k2.kept (((Below.refl _ _).drew).trans hb5)
            have hB5 := bt hBr (((Below.refl _ _).drew).trans hb5)
            refine hK.out _ _ k5 (fun hHeld => ?_)
            clear hK K
            try simp only [Act.put, List.getElem_toArray, List.getElem_cons_succ, List.getElem_cons_zero, List.setIfInBounds_toArray, List.set_cons_zero, List.set_cons_succ]
            refine wpAnyH_ready (rs := [10]) (by kernel_rfl) (by simp) ?_
            refine AllReadyH.cons rfl (fun K hK => ?_) AllReadyH.nil
            try rw [hu0, hu1, hu2]
            go_simp
            have k6 := k5.alloc (.cells #[.int .u64 ((uN D.x : Nat) : Int), .int .u64 ((uN D.y : Nat) : Int), .int .u64 ((uN D.z : Nat) : Int)] 73)
            have hB6 := bt hB5 (below_alloc w5 (.cells #[.int .u64 ((uN D.x : Nat) : Int), .int .u64 ((uN D.y : Nat) : Int), .int .u64 ((uN D.z : Nat) : Int)] 73))
            refine hK.out _ _ k6 (fun hHeld => ?_)
            clear hK K
            try simp only [Act.put, List.getElem_toArray, List.getElem_cons_succ, List.getElem_cons_zero, List.setIfInBounds_toArray, List.set_cons_zero, List.set_cons_succ]
            refine wpAnyH_ready (rs := [11]) (by kernel_rfl) (by simp) ?_
            refine AllReadyH.cons rfl (fun K hK => ?_) AllReadyH.nil
            try rw [hu0, hu1, hu2]
            go_simp
            refine (pack_any _ _ 3 3 3 3 wsD (vsD D) _ (hin5.below (below_alloc _ _)) (in_lit64 w5 (cs := #[.int .u64 ((uN D.x : Nat) : Int), .int .u64 ((uN D.y : Nat) : Int), .int .u64 ((uN D.z : Nat) : Int)]) (xs := vsD D) (n := 3) rfl rfl HLIM.out (by decide))).mono ?_
            rintro e w7 ⟨p7, n7, c7, rfl, hin7, hb7⟩
            have k7 := k6.kept hb7
            have hB7 := bt hB6 hb7
            refine hK.out _ _ k7 (fun hHeld => ?_)
            clear hK K
            try simp only [Act.put, List.getElem_toArray, List.getElem_cons_succ, List.getElem_cons_zero, List.setIfInBounds_toArray, List.set_cons_zero, List.set_cons_succ]
            refine wpAnyH_take (i := 12) (v := ?_) rfl (by kernel_rfl) (by kernel_rfl) (by kernel_rfl) (fun _ _ _ h => h) (Or.inl ⟨by kernel_rfl, ?_⟩) hHeld ?_
            rotate_left
            · intro w' hSw; try dsimp only at hSw
              go_simp; try (with_reducible rfl)
            try simp only [Act.put, List.getElem_toArray, List.getElem_cons_succ, List.getElem_cons_zero, List.setIfInBounds_toArray, List.set_cons_zero, List.set_cons_succ]
            refine wpAnyH_take (i := 13) (v := ?_) rfl (by kernel_rfl) (by kernel_rfl) (by kernel_rfl) (fun _ _ _ h => h) (Or.inl ⟨by kernel_rfl, ?_⟩) hHeld ?_
            rotate_left
            · intro w' hSw; try dsimp only at hSw
              go_simp; try (with_reducible rfl)
            try simp only [Act.put, List.getElem_toArray, List.getElem_cons_succ, List.getElem_cons_zero, List.setIfInBounds_toArray, List.set_cons_zero, List.set_cons_succ]
            refine wpAnyH_take (i := 14) (v := ?_) rfl (by kernel_rfl) (by kernel_rfl) (by kernel_rfl) (fun _ _ _ h => h) (Or.inl ⟨by kernel_rfl, ?_⟩) hHeld ?_
            rotate_left
            · intro w' hSw; try dsimp only at hSw
              go_simp; try (with_reducible rfl)
            try simp only [Act.put, List.getElem_toArray, List.getElem_cons_succ, List.getElem_cons_zero, List.setIfInBounds_toArray, List.set_cons_zero, List.set_cons_succ]
            refine wpAnyH_take (i := 15) (v := ?_) rfl (by kernel_rfl) (by kernel_rfl) (by kernel_rfl) (fun _ _ _ h => h) (Or.inl ⟨by kernel_rfl, ?_⟩) hHeld ?_
            rotate_left
            · intro w' hSw; try dsimp only at hSw
              go_simp; try (with_reducible rfl)
            try simp only [Act.put, List.getElem_toArray, List.getElem_cons_succ, List.getElem_cons_zero, List.setIfInBounds_toArray, List.set_cons_zero, List.set_cons_succ]
            refine wpAnyH_take (i := 16) (v := ?_) rfl (by kernel_rfl) (by kernel_rfl) (by kernel_rfl) (fun _ _ _ h => h) (Or.inl ⟨by kernel_rfl, ?_⟩) hHeld ?_
            rotate_left
            · intro w' hSw; try dsimp only at hSw
              go_simp; try (with_reducible rfl)
            try simp only [Act.put, List.getElem_toArray, List.getElem_cons_succ, List.getElem_cons_zero, List.setIfInBounds_toArray, List.set_cons_zero, List.set_cons_succ]
            refine wpAnyH_done (by kernel_rfl) ?_ _
            refine NoPanic.normal ?_
            rw [HPE.out]
            have hn7 := hin7.len
            rw [HP6.out] at hn7
            subst hn7
            have g7 := hgb.kept hB7
            obtain ⟨w9, hcp, hX9, ht9⟩ := copy_gen (o := q) (L := 256 - q) g7 (by rw [HLB.out]; omega) hin7
            have hsl := slice_back w.heap.size 0 256 256 q (by omega) (Nat.le_refl _) w7
            rw [HLN.out] at hX9
            generalize hmn : ((min (256 - q) 6 : Nat) : Int) = mq at hcp
            clear hmn
            rw [Nat.zero_add] at hsl
            have hB9 := ht9.below (bt hbel hB7) (Nat.le_refl _)
            have hx9 := hx.below hB9
            clear hin7 k7 hb7 hB7 hB6 hin5 hHeld g7
            go_wp2
            go_roundw
            case rel =>
              refine ⟨k + 1, by omega, by go_num, fun i hi => ?_, hX9, hB9⟩
              rcases Nat.lt_succ_iff_lt_or_eq.1 hi with h | h
              · exact HA.out i h
              · rw [h]; exact HDK.out
            case measure => simp [intOf]; omega
          refine AllReadyH.cons rfl (fun K hK => ?_) AllReadyH.nil
          try rw [hu0, hu1, hu2]
          go_simp
          have k5 := k2.drew.alloc (.cells #[.int .u64 ((uN D.x : Nat) : Int), .int .u64 ((uN D.y : Nat) : Int), .int .u64 ((uN D.z : Nat) : Int)] 73)
          refine hK.out _ _ k5 (fun hHeld => ?_)
          clear hK K
          try simp only [Act.put, List.getElem_toArray, List.getElem_cons_succ, List.getElem_cons_zero, List.setIfInBounds_toArray, List.set_cons_zero, List.set_cons_succ]
          refine wpAnyH_ready (rs := [0]) (by kernel_rfl) (by simp) ?_
          refine AllReadyH.cons rfl (fun K hK => ?_) AllReadyH.nil
          go_simp
          refine (descW_any _).mono ?_
          rintro e w5 ⟨p5, rfl, hin5, hb5⟩
          have k6 := k5.kept hb5
          have hB6 := bt (bt hBr.drew (below_alloc _ (.cells #[.int .u64 ((uN D.x : Nat) : Int), .int .u64 ((uN D.y : Nat) : Int), .int .u64 ((uN D.z : Nat) : Int)] 73))) hb5
          refine hK.out _ _ k6 (fun hHeld => ?_)
          clear hK K
          try simp only [Act.put, List.getElem_toArray, List.getElem_cons_succ, List.getElem_cons_zero, List.setIfInBounds_toArray, List.set_cons_zero, List.set_cons_succ]
          refine wpAnyH_ready (rs := [11]) (by kernel_rfl) (by simp) ?_
          refine AllReadyH.cons rfl (fun K hK => ?_) AllReadyH.nil
          try rw [hu0, hu1, hu2]
          go_simp
          refine (pack_any _ _ 3 3 3 3 wsD (vsD D) _ hin5 ((in_lit64 V.drew (cs := #[.int .u64 ((uN D.x : Nat) : Int), .int .u64 ((uN D.y : Nat) : Int), .int .u64 ((uN D.z : Nat) : Int)]) (xs := vsD D) (n := 3) rfl rfl HLIM.out (by decide)).below hb5)).mono ?_
          rintro e w7 ⟨p7, n7, c7, rfl, hin7, hb7⟩
          have k7 := k6.kept hb7
          have hB7 := bt hB6 hb7
          refine hK.out _ _ k7 (fun hHeld => ?_)
          clear hK K
          try simp only [Act.put, List.getElem_toArray, List.getElem_cons_succ, List.getElem_cons_zero, List.setIfInBounds_toArray, List.set_cons_zero, List.set_cons_succ]
          refine wpAnyH_take (i := 12) (v := ?_) rfl (by kernel_rfl) (by kernel_rfl) (by kernel_rfl) (fun _ _ _ h => h) (Or.inl ⟨by kernel_rfl, ?_⟩) hHeld ?_
          rotate_left
          · intro w' hSw; try dsimp only at hSw
            go_simp; try (with_reducible rfl)
          try simp only [Act.put, List.getElem_toArray, List.getElem_cons_succ, List.getElem_cons_zero, List.setIfInBounds_toArray, List.set_cons_zero, List.set_cons_succ]
          refine wpAnyH_take (i := 13) (v := ?_) rfl (by kernel_rfl) (by kernel_rfl) (by kernel_rfl) (fun _ _ _ h => h) (Or.inl ⟨by kernel_rfl, ?_⟩) hHeld ?_
          rotate_left
          · intro w' hSw; try dsimp only at hSw
            go_simp; try (with_reducible rfl)
          try simp only [Act.put, List.getElem_toArray, List.getElem_cons_succ, List.getElem_cons_zero, List.setIfInBounds_toArray, List.set_cons_zero, List.set_cons_succ]
          refine wpAnyH_take (i := 14) (v := ?_) rfl (by kernel_rfl) (by kernel_rfl) (by kernel_rfl) (fun _ _ _ h => h) (Or.inl ⟨by kernel_rfl, ?_⟩) hHeld ?_
          rotate_left
          · intro w' hSw; try dsimp only at hSw
            go_simp; try (with_reducible rfl)
          try simp only [Act.put, List.getElem_toArray, List.getElem_cons_succ, List.getElem_cons_zero, List.setIfInBounds_toArray, List.set_cons_zero, List.set_cons_succ]
          refine wpAnyH_take (i := 15) (v := ?_) rfl (by kernel_rfl) (by kernel_rfl) (by kernel_rfl) (fun _ _ _ h => h) (Or.inl ⟨by kernel_rfl, ?_⟩) hHeld ?_
          rotate_left
          · intro w' hSw; try dsimp only at hSw
            go_simp; try (with_reducible rfl)
          try simp only [Act.put, List.getElem_toArray, List.getElem_cons_succ, List.getElem_cons_zero, List.setIfInBounds_toArray, List.set_cons_zero, List.set_cons_succ]
          refine wpAnyH_take (i := 16) (v := ?_) rfl (by kernel_rfl) (by kernel_rfl) (by kernel_rfl) (fun _ _ _ h => h) (Or.inl ⟨by kernel_rfl, ?_⟩) hHeld ?_
          rotate_left
          · intro w' hSw; try dsimp only at hSw
            go_simp; try (with_reducible rfl)
          try simp only [Act.put, List.getElem_toArray, List.getElem_cons_succ, List.getElem_cons_zero, List.setIfInBounds_toArray, List.set_cons_zero, List.set_cons_succ]
          refine wpAnyH_done (by kernel_rfl) ?_ _
          refine NoPanic.normal ?_
          rw [HPE.out]
          have hn7 := hin7.len
          rw [HP6.out] at hn7
          subst hn7
          have g7 := hgb.kept hB7
          obtain ⟨w9, hcp, hX9, ht9⟩ := copy_gen (o := q) (L := 256 - q) g7 (by rw [HLB.out]; omega) hin7
          have hsl := slice_back w.heap.size 0 256 256 q (by omega) (Nat.le_refl _) w7
          rw [HLN.out] at hX9
          generalize hmn : ((min (256 - q) 6 : Nat) : Int) = mq at hcp
          clear hmn
          rw [Nat.zero_add] at hsl
          have hB9 := ht9.below (bt hbel hB7) (Nat.le_refl _)
          have hx9 := hx.below hB9
          clear hin7 k7 hb7 hB7 hB6 hin5 hHeld g7
          go_wp2
          go_roundw
          case rel =>
            refine ⟨k + 1, by omega, by go_num, fun i hi => ?_, hX9, hB9⟩
            rcases Nat.lt_succ_iff_lt_or_eq.1 hi with h | h
            · exact HA.out i h
            · rw [h]; exact HDK.out
          case measure => simp [intOf]; omega
        | false =>
          rw [hdk] at hPO
          have HPE : Hid (packE wsD (vsD D) = 1) := by show _ = _; unfold packE; rw [hPO]; rfl
          have HNO : Hid (edE l = 1 ∧ edL l = []) := edE_one (fun h => by
            have := h.2 D HKM.out
            rw [hdk] at this; cases this)
          clear hPO hdk
          refine wp_region_noPanic ?_
          refine wp_region_held_drew (S := fun X => Blk X wr.heap.size 58 [.int .i64 D.x, .int .i64 D.y, .int .i64 D.z]) (by kernel_rfl) k2.drew (fun hHeld => ?_)
          refine wpAnyH_take (i := 1) (v := ?_) rfl (by kernel_rfl) (by kernel_rfl) (by kernel_rfl) (fun _ _ _ h => h) (Or.inl ⟨by kernel_rfl, ?_⟩) hHeld ?_
          rotate_left
          · intro w' hSw; try dsimp only at hSw
            go_simp; try (with_reducible rfl)
          try simp only [Act.put, List.getElem_toArray, List.getElem_cons_succ, List.getElem_cons_zero, List.setIfInBounds_toArray, List.set_cons_zero, List.set_cons_succ]
          refine wpAnyH_take (i := 2) (v := ?_) rfl (by kernel_rfl) (by kernel_rfl) (by kernel_rfl) (fun _ _ _ h => h) (Or.inl ⟨by kernel_rfl, ?_⟩) hHeld ?_
          rotate_left
          · intro w' hSw; try dsimp only at hSw
            have c0 := hSw.cell' (i := 0) rfl
            have c1 := hSw.cell' (i := 1) rfl
            have c2 := hSw.cell' (i := 2) rfl
            go_simp; try (with_reducible rfl)
          try simp only [Act.put, List.getElem_toArray, List.getElem_cons_succ, List.getElem_cons_zero, List.setIfInBounds_toArray, List.set_cons_zero, List.set_cons_succ]
          refine wpAnyH_take (i := 3) (v := ?_) rfl (by kernel_rfl) (by kernel_rfl) (by kernel_rfl) (fun _ _ _ h => h) (Or.inl ⟨by kernel_rfl, ?_⟩) hHeld ?_
          rotate_left
          · intro w' hSw; try dsimp only at hSw
            go_simp; try (with_reducible rfl)
          try simp only [Act.put, List.getElem_toArray, List.getElem_cons_succ, List.getElem_cons_zero, List.setIfInBounds_toArray, List.set_cons_zero, List.set_cons_succ]
          refine wpAnyH_take (i := 4) (v := ?_) rfl (by kernel_rfl) (by kernel_rfl) (by kernel_rfl) (fun _ _ _ h => h) (Or.inl ⟨by kernel_rfl, ?_⟩) hHeld ?_
          rotate_left
          · intro w' hSw; try dsimp only at hSw
            go_simp; try (with_reducible rfl)
          try simp only [Act.put, List.getElem_toArray, List.getElem_cons_succ, List.getElem_cons_zero, List.setIfInBounds_toArray, List.set_cons_zero, List.set_cons_succ]
          refine wpAnyH_take (i := 5) (v := ?_) rfl (by kernel_rfl) (by kernel_rfl) (by kernel_rfl) (fun _ _ _ h => h) (Or.inl ⟨by kernel_rfl, ?_⟩) hHeld ?_
          rotate_left
          · intro w' hSw; try dsimp only at hSw
            have c0 := hSw.cell' (i := 0) rfl
            have c1 := hSw.cell' (i := 1) rfl
            have c2 := hSw.cell' (i := 2) rfl
            go_simp; try (with_reducible rfl)
          try simp only [Act.put, List.getElem_toArray, List.getElem_cons_succ, List.getElem_cons_zero, List.setIfInBounds_toArray, List.set_cons_zero, List.set_cons_succ]
          refine wpAnyH_take (i := 6) (v := ?_) rfl (by kernel_rfl) (by kernel_rfl) (by kernel_rfl) (fun _ _ _ h => h) (Or.inl ⟨by kernel_rfl, ?_⟩) hHeld ?_
          rotate_left
          · intro w' hSw; try dsimp only at hSw
            go_simp; try (with_reducible rfl)
          try simp only [Act.put, List.getElem_toArray, List.getElem_cons_succ, List.getElem_cons_zero, List.setIfInBounds_toArray, List.set_cons_zero, List.set_cons_succ]
          refine wpAnyH_take (i := 7) (v := ?_) rfl (by kernel_rfl) (by kernel_rfl) (by kernel_rfl) (fun _ _ _ h => h) (Or.inl ⟨by kernel_rfl, ?_⟩) hHeld ?_
          rotate_left
          · intro w' hSw; try dsimp only at hSw
            go_simp; try (with_reducible rfl)
          try simp only [Act.put, List.getElem_toArray, List.getElem_cons_succ, List.getElem_cons_zero, List.setIfInBounds_toArray, List.set_cons_zero, List.set_cons_succ]
          refine wpAnyH_take (i := 8) (v := ?_) rfl (by kernel_rfl) (by kernel_rfl) (by kernel_rfl) (fun _ _ _ h => h) (Or.inl ⟨by kernel_rfl, ?_⟩) hHeld ?_
          rotate_left
          · intro w' hSw; try dsimp only at hSw
            have c0 := hSw.cell' (i := 0) rfl
            have c1 := hSw.cell' (i := 1) rfl
            have c2 := hSw.cell' (i := 2) rfl
            go_simp; try (with_reducible rfl)
          try simp only [Act.put, List.getElem_toArray, List.getElem_cons_succ, List.getElem_cons_zero, List.setIfInBounds_toArray, List.set_cons_zero, List.set_cons_succ]
          refine wpAnyH_take (i := 9) (v := ?_) rfl (by kernel_rfl) (by kernel_rfl) (by kernel_rfl) (fun _ _ _ h => h) (Or.inl ⟨by kernel_rfl, ?_⟩) hHeld ?_
          rotate_left
          · intro w' hSw; try dsimp only at hSw
            go_simp; try (with_reducible rfl)
          try simp only [Act.put, List.getElem_toArray, List.getElem_cons_succ, List.getElem_cons_zero, List.setIfInBounds_toArray, List.set_cons_zero, List.set_cons_succ]
          refine wpAnyH_ready (rs := [0, 10]) (by kernel_rfl) (by simp) ?_
          refine AllReadyH.cons rfl (fun K hK => ?_) ?_
          · go_simp
            refine (descW_any _).mono ?_
            rintro e w5 ⟨p5, rfl, hin5, hb5⟩
            have k5 := k2.kept (((Below.refl _ _).drew).trans hb5)
            have hB5 := bt hBr (((Below.refl _ _).drew).trans hb5)
            refine hK.out _ _ k5 (fun hHeld => ?_)
            clear hK K
            try simp only [Act.put, List.getElem_toArray, List.getElem_cons_succ, List.getElem_cons_zero, List.setIfInBounds_toArray, List.set_cons_zero, List.set_cons_succ]
            refine wpAnyH_ready (rs := [10]) (by kernel_rfl) (by simp) ?_
            refine AllReadyH.cons rfl (fun K hK => ?_) AllReadyH.nil
            try rw [hu0, hu1, hu2]
            go_simp
            have k6 := k5.alloc (.cells #[.int .u64 ((uN D.x : Nat) : Int), .int .u64 ((uN D.y : Nat) : Int), .int .u64 ((uN D.z : Nat) : Int)] 73)
            have hB6 := bt hB5 (below_alloc w5 (.cells #[.int .u64 ((uN D.x : Nat) : Int), .int .u64 ((uN D.y : Nat) : Int), .int .u64 ((uN D.z : Nat) : Int)] 73))
            refine hK.out _ _ k6 (fun hHeld => ?_)
            clear hK K
            try simp only [Act.put, List.getElem_toArray, List.getElem_cons_succ, List.getElem_cons_zero, List.setIfInBounds_toArray, List.set_cons_zero, List.set_cons_succ]
            refine wpAnyH_ready (rs := [11]) (by kernel_rfl) (by simp) ?_
            refine AllReadyH.cons rfl (fun K hK => ?_) AllReadyH.nil
            try rw [hu0, hu1, hu2]
            go_simp
            refine (pack_any _ _ 3 3 3 3 wsD (vsD D) _ (hin5.below (below_alloc _ _)) (in_lit64 w5 (cs := #[.int .u64 ((uN D.x : Nat) : Int), .int .u64 ((uN D.y : Nat) : Int), .int .u64 ((uN D.z : Nat) : Int)]) (xs := vsD D) (n := 3) rfl rfl HLIM.out (by decide))).mono ?_
            rintro e w7 ⟨p7, n7, c7, rfl, hin7, hb7⟩
            have k7 := k6.kept hb7
            have hB7 := bt hB6 hb7
            refine hK.out _ _ k7 (fun hHeld => ?_)
            clear hK K
            try simp only [Act.put, List.getElem_toArray, List.getElem_cons_succ, List.getElem_cons_zero, List.setIfInBounds_toArray, List.set_cons_zero, List.set_cons_succ]
            refine wpAnyH_take (i := 12) (v := ?_) rfl (by kernel_rfl) (by kernel_rfl) (by kernel_rfl) (fun _ _ _ h => h) (Or.inl ⟨by kernel_rfl, ?_⟩) hHeld ?_
            rotate_left
            · intro w' hSw; try dsimp only at hSw
              go_simp; try (with_reducible rfl)
            try simp only [Act.put, List.getElem_toArray, List.getElem_cons_succ, List.getElem_cons_zero, List.setIfInBounds_toArray, List.set_cons_zero, List.set_cons_succ]
            refine wpAnyH_take (i := 13) (v := ?_) rfl (by kernel_rfl) (by kernel_rfl) (by kernel_rfl) (fun _ _ _ h => h) (Or.inl ⟨by kernel_rfl, ?_⟩) hHeld ?_
            rotate_left
            · intro w' hSw; try dsimp only at hSw
              go_simp; try (with_reducible rfl)
            try simp only [Act.put, List.getElem_toArray, List.getElem_cons_succ, List.getElem_cons_zero, List.setIfInBounds_toArray, List.set_cons_zero, List.set_cons_succ]
            refine wpAnyH_take (i := 14) (v := ?_) rfl (by kernel_rfl) (by kernel_rfl) (by kernel_rfl) (fun _ _ _ h => h) (Or.inl ⟨by kernel_rfl, ?_⟩) hHeld ?_
            rotate_left
            · intro w' hSw; try dsimp only at hSw
              go_simp; try (with_reducible rfl)
            try simp only [Act.put, List.getElem_toArray, List.getElem_cons_succ, List.getElem_cons_zero, List.setIfInBounds_toArray, List.set_cons_zero, List.set_cons_succ]
            refine wpAnyH_take (i := 15) (v := ?_) rfl (by kernel_rfl) (by kernel_rfl) (by kernel_rfl) (fun _ _ _ h => h) (Or.inl ⟨by kernel_rfl, ?_⟩) hHeld ?_
            rotate_left
            · intro w' hSw; try dsimp only at hSw
              go_simp; try (with_reducible rfl)
            try simp only [Act.put, List.getElem_toArray, List.getElem_cons_succ, List.getElem_cons_zero, List.setIfInBounds_toArray, List.set_cons_zero, List.set_cons_succ]
            refine wpAnyH_take (i := 16) (v := ?_) rfl (by kernel_rfl) (by kernel_rfl) (by kernel_rfl) (fun _ _ _ h => h) (Or.inl ⟨by kernel_rfl, ?_⟩) hHeld ?_
            rotate_left
            · intro w' hSw; try dsimp only at hSw
              go_simp; try (with_reducible rfl)
            try simp only [Act.put, List.getElem_toArray, List.getElem_cons_succ, List.getElem_cons_zero, List.setIfInBounds_toArray, List.set_cons_zero, List.set_cons_succ]
            refine wpAnyH_done (by kernel_rfl) ?_ _
            refine NoPanic.normal ?_
            rw [HPE.out]
            go_wp2
            go_ret2
            rw [HNO.out.1, HNO.out.2]
            exact ⟨_, _, _, rfl, In.empty _, bt hbel hB7⟩
          refine AllReadyH.cons rfl (fun K hK => ?_) AllReadyH.nil
          try rw [hu0, hu1, hu2]
          go_simp
          have k5 := k2.drew.alloc (.cells #[.int .u64 ((uN D.x : Nat) : Int), .int .u64 ((uN D.y : Nat) : Int), .int .u64 ((uN D.z : Nat) : Int)] 73)
          refine hK.out _ _ k5 (fun hHeld => ?_)
          clear hK K
          try simp only [Act.put, List.getElem_toArray, List.getElem_cons_succ, List.getElem_cons_zero, List.setIfInBounds_toArray, List.set_cons_zero, List.set_cons_succ]
          refine wpAnyH_ready (rs := [0]) (by kernel_rfl) (by simp) ?_
          refine AllReadyH.cons rfl (fun K hK => ?_) AllReadyH.nil
          go_simp
          refine (descW_any _).mono ?_
          rintro e w5 ⟨p5, rfl, hin5, hb5⟩
          have k6 := k5.kept hb5
          have hB6 := bt (bt hBr.drew (below_alloc _ (.cells #[.int .u64 ((uN D.x : Nat) : Int), .int .u64 ((uN D.y : Nat) : Int), .int .u64 ((uN D.z : Nat) : Int)] 73))) hb5
          refine hK.out _ _ k6 (fun hHeld => ?_)
          clear hK K
          try simp only [Act.put, List.getElem_toArray, List.getElem_cons_succ, List.getElem_cons_zero, List.setIfInBounds_toArray, List.set_cons_zero, List.set_cons_succ]
          refine wpAnyH_ready (rs := [11]) (by kernel_rfl) (by simp) ?_
          refine AllReadyH.cons rfl (fun K hK => ?_) AllReadyH.nil
          try rw [hu0, hu1, hu2]
          go_simp
          refine (pack_any _ _ 3 3 3 3 wsD (vsD D) _ hin5 ((in_lit64 V.drew (cs := #[.int .u64 ((uN D.x : Nat) : Int), .int .u64 ((uN D.y : Nat) : Int), .int .u64 ((uN D.z : Nat) : Int)]) (xs := vsD D) (n := 3) rfl rfl HLIM.out (by decide)).below hb5)).mono ?_
          rintro e w7 ⟨p7, n7, c7, rfl, hin7, hb7⟩
          have k7 := k6.kept hb7
          have hB7 := bt hB6 hb7
          refine hK.out _ _ k7 (fun hHeld => ?_)
          clear hK K
          try simp only [Act.put, List.getElem_toArray, List.getElem_cons_succ, List.getElem_cons_zero, List.setIfInBounds_toArray, List.set_cons_zero, List.set_cons_succ]
          refine wpAnyH_take (i := 12) (v := ?_) rfl (by kernel_rfl) (by kernel_rfl) (by kernel_rfl) (fun _ _ _ h => h) (Or.inl ⟨by kernel_rfl, ?_⟩) hHeld ?_
          rotate_left
          · intro w' hSw; try dsimp only at hSw
            go_simp; try (with_reducible rfl)
          try simp only [Act.put, List.getElem_toArray, List.getElem_cons_succ, List.getElem_cons_zero, List.setIfInBounds_toArray, List.set_cons_zero, List.set_cons_succ]
          refine wpAnyH_take (i := 13) (v := ?_) rfl (by kernel_rfl) (by kernel_rfl) (by kernel_rfl) (fun _ _ _ h => h) (Or.inl ⟨by kernel_rfl, ?_⟩) hHeld ?_
          rotate_left
          · intro w' hSw; try dsimp only at hSw
            go_simp; try (with_reducible rfl)
          try simp only [Act.put, List.getElem_toArray, List.getElem_cons_succ, List.getElem_cons_zero, List.setIfInBounds_toArray, List.set_cons_zero, List.set_cons_succ]
          refine wpAnyH_take (i := 14) (v := ?_) rfl (by kernel_rfl) (by kernel_rfl) (by kernel_rfl) (fun _ _ _ h => h) (Or.inl ⟨by kernel_rfl, ?_⟩) hHeld ?_
          rotate_left
          · intro w' hSw; try dsimp only at hSw
            go_simp; try (with_reducible rfl)
          try simp only [Act.put, List.getElem_toArray, List.getElem_cons_succ, List.getElem_cons_zero, List.setIfInBounds_toArray, List.set_cons_zero, List.set_cons_succ]
          refine wpAnyH_take (i := 15) (v := ?_) rfl (by kernel_rfl) (by kernel_rfl) (by kernel_rfl) (fun _ _ _ h => h) (Or.inl ⟨by kernel_rfl, ?_⟩) hHeld ?_
          rotate_left
          · intro w' hSw; try dsimp only at hSw
            go_simp; try (with_reducible rfl)
          try simp only [Act.put, List.getElem_toArray, List.getElem_cons_succ, List.getElem_cons_zero, List.setIfInBounds_toArray, List.set_cons_zero, List.set_cons_succ]
          refine wpAnyH_take (i := 16) (v := ?_) rfl (by kernel_rfl) (by kernel_rfl) (by kernel_rfl) (fun _ _ _ h => h) (Or.inl ⟨by kernel_rfl, ?_⟩) hHeld ?_
          rotate_left
          · intro w' hSw; try dsimp only at hSw
            go_simp; try (with_reducible rfl)
          try simp only [Act.put, List.getElem_toArray, List.getElem_cons_succ, List.getElem_cons_zero, List.setIfInBounds_toArray, List.set_cons_zero, List.set_cons_succ]
          refine wpAnyH_done (by kernel_rfl) ?_ _
          refine NoPanic.normal ?_
          rw [HPE.out]
          go_wp2
          go_ret2
          rw [HNO.out.1, HNO.out.2]
          exact ⟨_, _, _, rfl, In.empty _, bt hbel hB7⟩
      · obtain rfl : k = n := by omega
        have hE : edE l = 0 := edE_zero.2 ⟨by rw [HL.out]; exact hn, by
          have := all_take HA.out (Nat.le_of_eq HL.out.symm)
          rwa [List.take_of_length_le (Nat.le_of_eq HL.out)] at this⟩
        have HE : Hid (edE l = 0) := hE
        have HEL : Hid (edL l = edB l) := by show _ = _; unfold edL; rw [if_pos hE]
        rw [List.take_of_length_le (Nat.le_of_eq HL.out)] at hgb
        have HBL : Hid ((edB l).length = 256) := edB_length (fun d hd => by rw [packD_ok (hr d hd)]; exact (edE_zero.1 hE).2 d hd) (by rw [HL.out]; exact hn)
        clear hE
        go_wp2
        go_ret2
        rw [HE.out, HEL.out]
        obtain ⟨p', c', hv, hin⟩ := in_of_owns (xs := edB l) (owns_of_block (B := 0) (n := 256) (Nat.zero_le _) (by rw [vals_length]; exact HBL.out) (by unfold maxLen; decide) hgb) (edB_byte l) (by decide)
        cases hv
        exact ⟨_, _, _, rfl, hin, hbel⟩
  · have hn1 : (16 : Int) < (n : Int) := by omega
    obtain ⟨e1, e2⟩ := edE_one (l := l) (fun h => by rw [HL.out] at h; omega)
    rw [e1, e2]
    clear e1 e2 hn
    go_enter Try.func37, Try.ntmps37
    go_wp2_with fail
    go_ret2
    exact ⟨_, _, _, rfl, In.empty _, Below.refl _ _⟩
end Go.Proofs.Ytbimcdaplnmjdaa
