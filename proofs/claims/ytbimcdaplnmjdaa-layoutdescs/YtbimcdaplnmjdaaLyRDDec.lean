/-
  What the reference's DecodeDescs answers.
-/
import Derived.Test.YtbimcdaplnmjdaaLyDDec2
import Derived.Test.YtbimcdaplnmjdaaLyRDEnc
import Derived.Test.YtbimcdaplnmjdaaLyRFresh
namespace Go.Proofs.Ytbimcdaplnmjdaa
open Go.RowKit
set_option linter.unusedSimpArgs false in
set_option maxHeartbeats 16000000 in
set_option maxRecDepth 100000 in
theorem rdecodeDescs_any (p : Option Addr) (n c : Nat) (xs : List Nat) (k : Int) (w : World) (hx : In w p n c xs) :
    Calls Try.prog 40 #[.slice p n c, .int .i64 k] w fun e w' => ∃ p' n' c', e = .returned (.tuple #[.slice p' n' c', .int .i64 (ddE xs k)]) ∧ InD w' p' n' c' (ddL xs k) ∧ Below w.heap.size w w' := by
  have HL : Hid (xs.length = n) := hx.len
  by_cases hk1 : k < 0
  · rw [(dd_far (xs := xs) (n := k) (by omega)).1, (dd_far (xs := xs) (n := k) (by omega)).2]
    go_enter Try.func40, Try.ntmps40
    go_wp2
    go_ret2
    exact ⟨_, _, _, rfl, InD.empty _, Below.refl _ _⟩
  by_cases hk2 : 16 < k
  · rw [(dd_far (xs := xs) (n := k) (by omega)).1, (dd_far (xs := xs) (n := k) (by omega)).2]
    go_enter Try.func40, Try.ntmps40
    go_wp2
    go_ret2
    exact ⟨_, _, _, rfl, InD.empty _, Below.refl _ _⟩
  obtain ⟨m, rfl⟩ : ∃ m : Nat, k = (m : Int) := ⟨k.toNat, by omega⟩
  have hm : m ≤ 16 := by omega
  by_cases hn : n = 256
  · subst hn
    obtain ⟨b, o, hpe, hbl, -⟩ := hx.at' (by decide)
    subst hpe
    have hcap := hx.cap
    have HE0 : Hid (edE (rdD xs m) = 0) := rdE_zero xs hm
    have HBY : Hid (∀ x ∈ edL (rdD xs m), x < 256) := by
      show ∀ x ∈ _, _
      unfold edL
      rw [if_pos HE0.out]
      exact edB_byte _
    have HDD : Hid (ddE xs (m : Int) = if (edL (rdD xs m) == xs) then 0 else 111) := by
      show _ = _
      unfold ddE ddOk
      rw [if_pos (by omega), Int.toNat_natCast, HL.out]; simp
    have HDL : Hid (ddL xs (m : Int) = if (edL (rdD xs m) == xs) then rdD xs m else []) := by
      show _ = _
      unfold ddL
      rw [HDD.out, Int.toNat_natCast]
      split <;> simp
    go_enter Try.func40, Try.ntmps40
    go_wp2
    go_loopw [6, 7] (fun s i wr => ∃ (k : Nat) (pl : Option Addr) (cl : Nat), k ≤ m ∧ i = .int .i64 k ∧ s = .slice pl k cl ∧ wr.ownsRow w.heap.size 58 3 (.slice pl k cl) k (flatD (rdD xs k)) ∧ Below w.heap.size w wr) (fun _ i _ => m - (intOf i).toNat)
    case atStart => exact ⟨0, none, 0, Nat.zero_le _, rfl, rfl, ⟨rfl, .inl ⟨rfl, rfl⟩⟩, Below.refl _ _⟩
    case round =>
      obtain ⟨k, pl, cl, hk, rfl, rfl, hown, hbel⟩ := hrel
      by_cases hlt : k < m
      · obtain ⟨q, HQ⟩ : ∃ q : Nat, Hid (k * 16 = q) := ⟨_, rfl⟩
        have hk16 : (k : Int) * 16 = (q : Int) := by have := HQ.out; omega
        have hq240 : q ≤ 240 := by have := HQ.out; omega
        have hwq : IntKind.i64.wrap (q : Int) = (q : Int) := wrapI _ (by omega)
        have hxr := hx.below hbel
        have hbk := (hxr.back q (by omega)).front 6 (by omega)
        have hf := fD_lt xs k
        obtain ⟨hv, hu⟩ := fD_vals (xs := xs) HQ.out (by rw [HL.out]; omega)
        have E0 : Hid _ := hv 0 (by decide)
        have E1 : Hid _ := hv 1 (by decide)
        have E2 : Hid _ := hv 2 (by decide)
        have HU : Hid _ := hu
        have HRS : Hid _ := rdD_succ xs k
        clear hv hu
        generalize fD xs k 0 = f0 at *
        generalize fD xs k 1 = f1 at *
        generalize fD xs k 2 = f2 at *
        have hv0 : IntKind.i64.wrap (f0 : Int) = (f0 : Int) := wrapI _ (by omega)
        have hv1 : IntKind.i64.wrap (f1 : Int) = (f1 : Int) := wrapI _ (by omega)
        have hv2 : IntKind.i64.wrap (f2 : Int) = (f2 : Int) := wrapI _ (by omega)
        go_upto_region 10 with (go_at_call 63; refine (refUnpack_fresh _ _ 3 3 6 (c - q) wsD ((xs.drop q).take 6) _ (in_litI wr (cs := #[.int .i64 16, .int .i64 16, .int .i64 16]) (xs := wsD) (n := 3) rfl rfl (by decide)) (hbk.below (below_alloc _ _))).mono ?_; rintro e w3 ⟨p3, n3, c3, rfl, hin3, hb3, hfr3⟩; have hn3 := hin3.len; rw [HU.out] at hn3; subst hn3)
        have hS3 : Below wr.heap.size wr w3 := bt (below_alloc _ (.cells #[.int .i64 16, .int .i64 16, .int .i64 16] 3)) hb3
        obtain ⟨b5, o5, rfl, hb5, hc5⟩ := hin3.at' (by decide)
        have hcap5 := hin3.cap
        have d0 := hc5 0 (by decide)
        have d1 := hc5 1 (by decide)
        have d2 := hc5 2 (by decide)
        unfold el at d0 d1 d2
        rw [E0.out, Nat.add_zero] at d0
        rw [E1.out] at d1
        rw [E2.out] at d2
        have hown3 := owns_below hown hS3
        have hyg : wr.heap.size ≤ b5 := by have h5 : _ ≤ b5 := hfr3 _ rfl; rw [World.size_alloc] at h5; omega
        have hB3 := bt hbel hS3
        have hsz3 := hB3.size
        clear hc5 hin3 hb3 hS3 hbk hxr hbel hfr3
        refine wp_region_noPanic ?_
        refine wp_region_held_drew (S := fun X => X.cell? ⟨b5, o5, none⟩ = some (.int .u64 (f0 : Int)) ∧ X.cell? ⟨b5, o5 + 1, none⟩ = some (.int .u64 (f1 : Int)) ∧ X.cell? ⟨b5, o5 + 2, none⟩ = some (.int .u64 (f2 : Int))) (by kernel_rfl) ⟨d0, d1, d2⟩ (fun hHeld => ?_)
        refine wpAnyH_take (i := 0) (v := ?_) rfl (by kernel_rfl) (by kernel_rfl) (by kernel_rfl) (fun _ _ _ h => h) (Or.inl ⟨by kernel_rfl, ?_⟩) hHeld ?_
        rotate_left
        · intro w' hSw; try dsimp only at hSw
          go_simp; try (with_reducible rfl)
        try simp only [Act.put, List.getElem_toArray, List.getElem_cons_succ, List.getElem_cons_zero, List.setIfInBounds_toArray, List.set_cons_zero, List.set_cons_succ]
        refine wpAnyH_take (i := 1) (v := ?_) rfl (by kernel_rfl) (by kernel_rfl) (by kernel_rfl) (fun _ _ _ h => h) (Or.inl ⟨by kernel_rfl, ?_⟩) hHeld ?_
        rotate_left
        · intro w' hSw; try dsimp only at hSw
          go_simp; try (with_reducible rfl)
        try simp only [Act.put, List.getElem_toArray, List.getElem_cons_succ, List.getElem_cons_zero, List.setIfInBounds_toArray, List.set_cons_zero, List.set_cons_succ]
        refine wpAnyH_take (i := 2) (v := ?_) rfl (by kernel_rfl) (by kernel_rfl) (by kernel_rfl) (fun _ _ _ h => h) (Or.inl ⟨by kernel_rfl, ?_⟩) hHeld ?_
        rotate_left
        · intro w' hSw; try dsimp only at hSw
          go_simp; try (with_reducible rfl)
        try simp only [Act.put, List.getElem_toArray, List.getElem_cons_succ, List.getElem_cons_zero, List.setIfInBounds_toArray, List.set_cons_zero, List.set_cons_succ]
        refine wpAnyH_take (i := 3) (v := ?_) rfl (by kernel_rfl) (by kernel_rfl) (by kernel_rfl) (fun _ _ _ h => h) (Or.inl ⟨by kernel_rfl, ?_⟩) hHeld ?_
        rotate_left
        · intro w' hSw; try dsimp only at hSw
          obtain ⟨q0, q1, q2⟩ := hSw
          go_simp; try (with_reducible rfl)
        try simp only [Act.put, List.getElem_toArray, List.getElem_cons_succ, List.getElem_cons_zero, List.setIfInBounds_toArray, List.set_cons_zero, List.set_cons_succ]
        refine wpAnyH_take (i := 4) (v := ?_) rfl (by kernel_rfl) (by kernel_rfl) (by kernel_rfl) (fun _ _ _ h => h) (Or.inl ⟨by kernel_rfl, ?_⟩) hHeld ?_
        rotate_left
        · intro w' hSw; try dsimp only at hSw
          go_simp; try (with_reducible rfl)
        try simp only [Act.put, List.getElem_toArray, List.getElem_cons_succ, List.getElem_cons_zero, List.setIfInBounds_toArray, List.set_cons_zero, List.set_cons_succ]
        refine wpAnyH_take (i := 5) (v := ?_) rfl (by kernel_rfl) (by kernel_rfl) (by kernel_rfl) (fun _ _ _ h => h) (Or.inl ⟨by kernel_rfl, ?_⟩) hHeld ?_
        rotate_left
        · intro w' hSw; try dsimp only at hSw
          go_simp; try (with_reducible rfl)
        try simp only [Act.put, List.getElem_toArray, List.getElem_cons_succ, List.getElem_cons_zero, List.setIfInBounds_toArray, List.set_cons_zero, List.set_cons_succ]
        refine wpAnyH_take (i := 6) (v := ?_) rfl (by kernel_rfl) (by kernel_rfl) (by kernel_rfl) (fun _ _ _ h => h) (Or.inl ⟨by kernel_rfl, ?_⟩) hHeld ?_
        rotate_left
        · intro w' hSw; try dsimp only at hSw
          go_simp; try (with_reducible rfl)
        try simp only [Act.put, List.getElem_toArray, List.getElem_cons_succ, List.getElem_cons_zero, List.setIfInBounds_toArray, List.set_cons_zero, List.set_cons_succ]
        refine wpAnyH_take (i := 7) (v := ?_) rfl (by kernel_rfl) (by kernel_rfl) (by kernel_rfl) (fun _ _ _ h => h) (Or.inl ⟨by kernel_rfl, ?_⟩) hHeld ?_
        rotate_left
        · intro w' hSw; try dsimp only at hSw
          obtain ⟨q0, q1, q2⟩ := hSw
          go_simp; try (with_reducible rfl)
        try simp only [Act.put, List.getElem_toArray, List.getElem_cons_succ, List.getElem_cons_zero, List.setIfInBounds_toArray, List.set_cons_zero, List.set_cons_succ]
        refine wpAnyH_take (i := 8) (v := ?_) rfl (by kernel_rfl) (by kernel_rfl) (by kernel_rfl) (fun _ _ _ h => h) (Or.inl ⟨by kernel_rfl, ?_⟩) hHeld ?_
        rotate_left
        · intro w' hSw; try dsimp only at hSw
          go_simp; try (with_reducible rfl)
        try simp only [Act.put, List.getElem_toArray, List.getElem_cons_succ, List.getElem_cons_zero, List.setIfInBounds_toArray, List.set_cons_zero, List.set_cons_succ]
        refine wpAnyH_take (i := 9) (v := ?_) rfl (by kernel_rfl) (by kernel_rfl) (by kernel_rfl) (fun _ _ _ h => h) (Or.inl ⟨by kernel_rfl, ?_⟩) hHeld ?_
        rotate_left
        · intro w' hSw; try dsimp only at hSw
          go_simp; try (with_reducible rfl)
        try simp only [Act.put, List.getElem_toArray, List.getElem_cons_succ, List.getElem_cons_zero, List.setIfInBounds_toArray, List.set_cons_zero, List.set_cons_succ]
        refine wpAnyH_take (i := 10) (v := ?_) rfl (by kernel_rfl) (by kernel_rfl) (by kernel_rfl) (fun _ _ _ h => h) (Or.inl ⟨by kernel_rfl, ?_⟩) hHeld ?_
        rotate_left
        · intro w' hSw; try dsimp only at hSw
          go_simp; try (with_reducible rfl)
        try simp only [Act.put, List.getElem_toArray, List.getElem_cons_succ, List.getElem_cons_zero, List.setIfInBounds_toArray, List.set_cons_zero, List.set_cons_succ]
        refine wpAnyH_take (i := 11) (v := ?_) rfl (by kernel_rfl) (by kernel_rfl) (by kernel_rfl) (fun _ _ _ h => h) (Or.inl ⟨by kernel_rfl, ?_⟩) hHeld ?_
        rotate_left
        · intro w' hSw; try dsimp only at hSw
          obtain ⟨q0, q1, q2⟩ := hSw
          go_simp; try (with_reducible rfl)
        try simp only [Act.put, List.getElem_toArray, List.getElem_cons_succ, List.getElem_cons_zero, List.setIfInBounds_toArray, List.set_cons_zero, List.set_cons_succ]
        refine wpAnyH_take (i := 12) (v := ?_) rfl (by kernel_rfl) (by kernel_rfl) (by kernel_rfl) (fun _ _ _ h => h) (Or.inl ⟨by kernel_rfl, ?_⟩) hHeld ?_
        rotate_left
        · intro w' hSw; try dsimp only at hSw
          go_simp; try (with_reducible rfl)
        try simp only [Act.put, List.getElem_toArray, List.getElem_cons_succ, List.getElem_cons_zero, List.setIfInBounds_toArray, List.set_cons_zero, List.set_cons_succ]
        refine wpAnyH_take (i := 13) (v := ?_) rfl (by kernel_rfl) (by kernel_rfl) (by kernel_rfl) (fun _ _ _ h => h) (Or.inl ⟨by kernel_rfl, ?_⟩) hHeld ?_
        rotate_left
        · intro w' hSw; try dsimp only at hSw
          go_simp; try (with_reducible rfl)
        try simp only [Act.put, List.getElem_toArray, List.getElem_cons_succ, List.getElem_cons_zero, List.setIfInBounds_toArray, List.set_cons_zero, List.set_cons_succ]
        refine wpAnyH_ready (rs := [14]) (by kernel_rfl) (by simp) ?_
        refine AllReadyH.cons rfl (fun K hK => ?_) AllReadyH.nil
        try rw [hv0, hv1, hv2]
        go_simp
        have hS4 := alloc3 (o := Obj.cells #[.int .i64 (f0 : Int), .int .i64 (f1 : Int), .int .i64 (f2 : Int)] 58) hb5 ⟨d0, d1, d2⟩
        have s4 := Blk.new' w3.drew 58 #[.int .i64 (f0 : Int), .int .i64 (f1 : Int), .int .i64 (f2 : Int)]
        have ho4 := (owns_below hown3 ((Below.refl _ _).drew)).alloc (.cells #[.int .i64 (f0 : Int), .int .i64 (f1 : Int), .int .i64 (f2 : Int)] 58)
        refine hK.out _ _ hS4 (fun hHeld => ?_)
        clear hK K
        try simp only [Act.put, List.getElem_toArray, List.getElem_cons_succ, List.getElem_cons_zero, List.setIfInBounds_toArray, List.set_cons_zero, List.set_cons_succ]
        refine wpAnyH_ready (rs := [15]) (by kernel_rfl) (by simp) ?_
        refine AllReadyH.cons rfl (fun K hK => ?_) AllReadyH.nil
        refine wp_append_desc (.tmp 38) (.tmp 52) rfl w.heap.size (.slice pl k cl) k (rdD xs k) ⟨(f0 : Int), (f1 : Int), (f2 : Int)⟩ (w3.drew.alloc (.cells #[.int .i64 (f0 : Int), .int .i64 (f1 : Int), .int .i64 (f2 : Int)] 58)) w3.heap.size rfl ho4 rfl s4 (by omega) (by rw [World.size_alloc]; exact Nat.le_succ_of_le hsz3) ?_
        intro p6 c6 w6 hown6 hgrow6 hb6
        have hS6 := grown3 hgrow6 (fun e => young_ne hown hyg (Nat.le_refl _) e) hS4
        refine hK.out _ _ hS6 (fun hHeld => ?_)
        clear hK K
        try simp only [Act.put, List.getElem_toArray, List.getElem_cons_succ, List.getElem_cons_zero, List.setIfInBounds_toArray, List.set_cons_zero, List.set_cons_succ]
        refine wpAnyH_take (i := 16) (v := ?_) rfl (by kernel_rfl) (by kernel_rfl) (by kernel_rfl) (fun _ _ _ h => h) (Or.inl ⟨by kernel_rfl, ?_⟩) hHeld ?_
        rotate_left
        · intro w' hSw; try dsimp only at hSw
          go_simp; try (with_reducible rfl)
        try simp only [Act.put, List.getElem_toArray, List.getElem_cons_succ, List.getElem_cons_zero, List.setIfInBounds_toArray, List.set_cons_zero, List.set_cons_succ]
        refine wpAnyH_done (by kernel_rfl) ?_ _
        refine NoPanic.normal ?_
        have hB6 : Below w.heap.size w w6 := (bt hB3.drew (below_alloc _ (.cells #[.int .i64 (f0 : Int), .int .i64 (f1 : Int), .int .i64 (f2 : Int)] 58))).trans hb6
        go_wp2
        go_roundw
        case rel => exact ⟨k + 1, p6, c6, by omega, by go_num, rfl, by rw [HRS.out]; exact hown6, hB6⟩
        case measure => simp [intOf]; omega
      · obtain rfl : k = m := by omega
        obtain ⟨p', c', hv, hin⟩ := in_of_ownsD hown (by omega)
        cases hv
        clear hown
        have cv1 := fun X p n c (h : In X p n c (edL (rdD xs k))) => conv_in h
        have cv2 := fun X (h : In X (some ⟨b, o, none⟩) 256 c xs) => conv_in h
        cases hq : (edL (rdD xs k) == xs) with
        | true =>
          have hse : ((strOfNums ((edL (rdD xs k)).map fun x : Nat => (x : Int))).toList == (strOfNums (xs.map fun x : Nat => (x : Int))).toList) = true := by rw [str_eq HBY.out hx.byte]; exact hq
          have HQ : Hid (_ = true) := hq
          clear hq
          generalize strOfNums ((edL (rdD xs k)).map fun x : Nat => (x : Int)) = s1 at *
          generalize strOfNums (xs.map fun x : Nat => (x : Int)) = s2 at *
          have hsn : (s1.toList != s2.toList) = false := by simp only [bne, hse]; rfl
          go_wp2_with (go_at_call 38; refine (rencodeDescs_any _ _ _ _ _ hin).mono ?_; rintro e w6 ⟨p6, n6, c6, rfl, hin6, hb6⟩; rw [HE0.out]; have hi6 := hin.below hb6; have hB6 := bt hbel hb6; have e1 := cv1 _ _ _ _ hin6; have e2 := cv2 _ (hx.below hB6))
          go_ret2
          rw [HDD.out, HDL.out, HQ.out]
          exact ⟨_, _, _, rfl, hi6, hB6⟩
        | false =>
          have hse : ((strOfNums ((edL (rdD xs k)).map fun x : Nat => (x : Int))).toList == (strOfNums (xs.map fun x : Nat => (x : Int))).toList) = false := by rw [str_eq HBY.out hx.byte]; exact hq
          have HQ : Hid (_ = false) := hq
          clear hq
          generalize strOfNums ((edL (rdD xs k)).map fun x : Nat => (x : Int)) = s1 at *
          generalize strOfNums (xs.map fun x : Nat => (x : Int)) = s2 at *
          have hsn : (s1.toList != s2.toList) = true := by simp only [bne, hse]; rfl
          go_wp2_with (go_at_call 38; refine (rencodeDescs_any _ _ _ _ _ hin).mono ?_; rintro e w6 ⟨p6, n6, c6, rfl, hin6, hb6⟩; rw [HE0.out]; have hi6 := hin.below hb6; have hB6 := bt hbel hb6; have e1 := cv1 _ _ _ _ hin6; have e2 := cv2 _ (hx.below hB6))
          go_ret2
          rw [HDD.out, HDL.out, HQ.out]
          exact ⟨_, _, _, rfl, InD.empty _, hB6⟩
  · have hok : ddOk xs m = false := by unfold ddOk; rw [HL.out, show (n == 256) = false from by rw [beq_eq_false_iff_ne]; exact hn]; rfl
    rw [(dd_no hm hok).1, (dd_no hm hok).2]
    have hnz : ((n : Int) != 256) = true := by rw [bne_iff_ne]; omega
    clear hok hn
    go_enter Try.func40, Try.ntmps40
    go_wp2
    go_ret2
    exact ⟨_, _, _, rfl, InD.empty _, Below.refl _ _⟩
end Go.Proofs.Ytbimcdaplnmjdaa
