/-
  The reference's Newest.
-/
import Derived.Test.YtfgelncfmopibaaSnRefP
import Derived.Test.YtfgelncfmopibaaSnRNew
namespace Go.Proofs.Ytfgelncfmopibaa
open Go.RowKit
theorem r07newest_no (P Lg : Int) (p : Option Addr) (n c : Nat) (w : World) (hok : okSz P Lg 1 = false) :
    Calls Try.prog 16 #[.int .i64 P, .int .i64 Lg, .slice p n c] w fun e w' => e = .returned (.slice none 0 0) ∧ Below w.heap.size w w' := by
  have hnew := fun w => r05new_no P Lg 1 w hok
  go_enter Try.func16, Try.ntmps16
  go_wp2_with (go_at_call 39; refine (hnew _).mono ?_; rintro e w1 ⟨rfl, hb1⟩)
  go_ret
  exact ⟨rfl, bt hb1 (below_alloc _ _)⟩
theorem takeZ_eq {l : List Pl} {k : Nat} {z : Pl} (h : k < l.length) (e : z = eZ l k) : flatZ (l.take k) ++ [.int .i64 z.ph, .int .i64 z.pg] = flatZ (l.take (k + 1)) := by
  rw [takeZ_succ l k h, flatZ_append, ← e]; rfl
theorem owns_sliceZ {w : World} {B : Nat} {v : Value} {n : Nat} {l : List Pl} (h : w.ownsRow B 29 2 v n (flatZ l)) : ∃ p c, v = .slice p n c := by
  rcases h.2 with ⟨rfl, rfl⟩ | ⟨g, cap, cur, rfl, _⟩
  · exact ⟨none, 0, rfl⟩
  · exact ⟨_, _, rfl⟩
set_option linter.unusedSimpArgs false in
set_option maxRecDepth 100000 in
set_option maxHeartbeats 8000000 in
theorem r07newest_ok (P : Int) (L M : Nat) (p : Option Addr) (n c : Nat) (xs : List Fd) (w : World) (hok : okSz P (L : Int) 1 = true) (hm : (L : Int) * P = (M : Int)) (hx : InF w p n c xs) :
    Calls Try.prog 16 #[.int .i64 P, .int .i64 (L : Int), .slice p n c] w fun e w' => ∃ q cq, e = .returned (.slice q M cq) ∧ w'.ownsRow w.heap.size 29 2 (.slice q M cq) M (flatZ (placesOf (newestL P M xs))) ∧ Below w.heap.size w w' := by
  have hnew := fun w => r05new_ok P L 1 M w hok hm
  dsimp only [newT, tabA] at hnew
  obtain ⟨r1, r2, r3⟩ := okSz_iff.1 hok
  have hM := prod_bd r2 r1
  rw [hm] at hM
  have hM2 : M ≤ 8192 := by omega
  have hMi : (M : Int) ≤ 8192 := by omega
  have hm' : P * (L : Int) = (M : Int) := by rw [Int.mul_comm]; exact hm
  have hw1 : IntKind.i64.wrap (P * (L : Int)) = (M : Int) := by rw [hm']; exact wrapN M (by omega)
  have hw2 : wrap64 (P * (L : Int)) = (M : Int) := (IntWalk.i64_left _).symm.trans hw1
  have HL : Hid (xs.length = n) := hx.len
  have hroom := hx.room
  obtain ⟨i0, hi, hz0, hz1, hz2⟩ := info_parts infoZ
  have HT : Hid ((placesOf (newestL P M xs)).length = M) := by show _ = _; simp [placesOf, newestL_length]
  have HE : Hid (∀ j, j < M → refPl P j xs = eZ (placesOf (newestL P M xs)) j) := fun j hj => refPl_eq P M j hj xs
  generalize placesOf (newestL P M xs) = T at *
  clear hM hm hm' hok r1 r2 r3
  go_enter Try.func16, Try.ntmps16
  go_wp2_with (go_at_call 39; refine (hnew _).mono ?_; rintro e w1 ⟨V, rfl, -, -, -, -, hb1⟩; have ba := bt hb1 (below_alloc w1 (.cells #[.int .i64 P, .int .i64 (L : Int), .int .i64 1, .slice V.pd V.nd V.cd, .slice V.ph V.nh V.ch, .int .i64 (-1), .int .i64 0, .int .i64 0, .slice V.pl V.nl V.cl] 56)))
  clear hnew
  generalize w1.alloc (.cells #[.int .i64 P, .int .i64 (L : Int), .int .i64 1, .slice V.pd V.nd V.cd, .slice V.ph V.nh V.ch, .int .i64 (-1), .int .i64 0, .int .i64 0, .slice V.pl V.nl V.cl] 56) = W0 at *
  clear hb1
  go_loopw [9, 10] (fun out i wr => ∃ (j : Nat) (q : Option Addr) (cq : Nat), j ≤ M ∧ i = .int .i64 j ∧ out = .slice q j cq ∧ wr.ownsRow w.heap.size 29 2 (.slice q j cq) j (flatZ (T.take j)) ∧ Below w.heap.size w wr) (fun _ i _ => M - (intOf i).toNat)
  case atStart => exact ⟨0, none, 0, Nat.zero_le _, rfl, rfl, ⟨rfl, .inl ⟨rfl, rfl⟩⟩, ba⟩
  case round =>
    obtain ⟨j, q, cq, hj, rfl, rfl, hown, hbj⟩ := hrel
    clear ba
    by_cases hlt : j < M
    · have hji : (j : Int) < (M : Int) := by omega
      go_wp2
      go_loopw [11, 12] (fun at' i wr => ∃ k : Nat, k ≤ n ∧ i = .int .i64 k ∧ at' = .int .i64 (bestI P j xs k) ∧ wr.ownsRow w.heap.size 29 2 (.slice q j cq) j (flatZ (T.take j)) ∧ Below w.heap.size w wr) (fun _ i _ => n - (intOf i).toNat)
      case atStart => exact ⟨0, Nat.zero_le _, rfl, rfl, hown, hbj⟩
      case round =>
        obtain ⟨k, hk, rfl, rfl, hown2, hb2⟩ := hrel
        clear hown hbj
        have hown3 : Hid (wr.ownsRow w.heap.size 29 2 (.slice q j cq) j (flatZ (T.take j))) := hown2
        clear hown2
        by_cases hkn : k < n
        · have hki : (k : Int) < (n : Int) := by omega
          have hel := fun W (h : Below w.heap.size w W) => (hx.below h).at' (by omega)
          obtain ⟨b, o, rfl, hbl, hc⟩ := hel _ hb2
          clear hel
          obtain ⟨e0, e1, e2, e3, e4, e5⟩ := hc k hkn
          have HB0 : Hid (bestI P j xs (k + 1) = if hitB P j (eF xs k) && (decide (bestI P j xs k < 0) || aheadB (eF xs k) (eF xs (bestI P j xs k).toNat)) then (k : Int) else bestI P j xs k) := rfl
          have hbr := bestI_range P j xs k
          have hat : bestI P j xs k = -1 ∨ ∃ a : Nat, a < n ∧ bestI P j xs k = (a : Int) := by
            rcases bestI_spec P j xs k with ⟨h, _⟩ | ⟨a, ha, h, _⟩
            · exact .inl h
            · exact .inr ⟨a, by omega, h⟩
          clear hbr
          have hcl := fun (a : Nat) (ha : a < n) => hc a ha
          clear hc
          generalize bestI P j xs k = A at *
          generalize hxk : eF xs k = x at *
          obtain ⟨xh, xg, xk, xp, xs', xt⟩ := x
          dsimp only at e0 e1 e2 e3 e4 e5
          clear hxk
          have bw := below_alloc wr (.cells #[.int .i64 xh, .int .i64 xg, .int .i64 xk, .int .i64 xp, .int .i64 xs', .int .i64 xt] 33)
          have bb := Blk.new' wr 33 #[.int .i64 xh, .int .i64 xg, .int .i64 xk, .int .i64 xp, .int .i64 xs', .int .i64 xt]
          cases hcn : cntB P ⟨xh, xg, xk, xp, xs', xt⟩ with
          | false =>
            have HB : Hid (bestI P j xs (k + 1) = A) := by show _ = _; rw [HB0.out]; simp [hitB, hcn]
            clear HB0 hat hcl
            go_upto_region 13 with (fail)
            refine wp_region_noPanic ?_
            refine wp_region_held_drew (S := fun X => Blk X wr.heap.size 33 [.int .i64 xh, .int .i64 xg, .int .i64 xk, .int .i64 xp, .int .i64 xs', .int .i64 xt] ∧ Below wr.heap.size wr X) (by kernel_rfl) ⟨bb.drew, bw.drew⟩ (fun hHeld => ?_)
            refine wpAnyH_take (i := 0) (v := ?_) rfl (by kernel_rfl) (by kernel_rfl) (by kernel_rfl) (fun _ _ _ h => h) (Or.inl ⟨by rfl, ?_⟩) hHeld ?_
            rotate_left
            · intro w' hSw; try dsimp only at hSw
              go_simp; try (with_reducible rfl)
            try simp only [Act.put, List.getElem_toArray, List.getElem_cons_succ, List.getElem_cons_zero, List.setIfInBounds_toArray, List.set_cons_zero, List.set_cons_succ]
            refine wpAnyH_take (i := 1) (v := ?_) rfl (by kernel_rfl) (by kernel_rfl) (by kernel_rfl) (fun _ _ _ h => h) (Or.inl ⟨by rfl, ?_⟩) hHeld ?_
            rotate_left
            · intro w' hSw; try dsimp only at hSw
              obtain ⟨b1, b2⟩ := hSw
              have z0 := b1.cell' (i := 0) rfl
              have z1 := b1.cell' (i := 1) rfl
              have z2 := b1.cell' (i := 2) rfl
              have z3 := b1.cell' (i := 3) rfl
              have z4 := b1.cell' (i := 4) rfl
              have z5 := b1.cell' (i := 5) rfl
              go_simp; try (with_reducible rfl)
            try simp only [Act.put, List.getElem_toArray, List.getElem_cons_succ, List.getElem_cons_zero, List.setIfInBounds_toArray, List.set_cons_zero, List.set_cons_succ]
            refine wpAnyH_ready (rs := [2]) (by kernel_rfl) (by simp) ?_
            refine AllReadyH.cons rfl (fun K hK => ?_) AllReadyH.nil
            go_simp
            refine (counts_any P ⟨xh, xg, xk, xp, xs', xt⟩ _).mono ?_
            rintro e W2 ⟨rfl, hbn⟩
            try go_wp2_with fail
            refine hK.out _ _ ⟨hHeld.1.kept hbn, bt hHeld.2 hbn⟩ (fun hHeld => ?_)
            clear hK K
            try simp only [Act.put, List.getElem_toArray, List.getElem_cons_succ, List.getElem_cons_zero, List.setIfInBounds_toArray, List.set_cons_zero, List.set_cons_succ]
            clear hbn
            refine wpAnyH_take (i := 3) (v := ?_) rfl (by kernel_rfl) (by kernel_rfl) (by kernel_rfl) (fun _ _ _ h => h) (Or.inl ⟨by rfl, ?_⟩) hHeld ?_
            rotate_left
            · intro w' hSw; try dsimp only at hSw
              go_simp; try (with_reducible rfl)
            try simp only [Act.put, List.getElem_toArray, List.getElem_cons_succ, List.getElem_cons_zero, List.setIfInBounds_toArray, List.set_cons_zero, List.set_cons_succ]
            refine wpAnyH_take (i := 4) (v := undef) rfl (by kernel_rfl) (by kernel_rfl) (by kernel_rfl) (fun _ _ _ h => h) (Or.inr ⟨by rfl, rfl⟩) hHeld ?_
            try simp only [Act.put, List.getElem_toArray, List.getElem_cons_succ, List.getElem_cons_zero, List.setIfInBounds_toArray, List.set_cons_zero, List.set_cons_succ]
            refine wpAnyH_take (i := 5) (v := undef) rfl (by kernel_rfl) (by kernel_rfl) (by kernel_rfl) (fun _ _ _ h => h) (Or.inr ⟨by rfl, rfl⟩) hHeld ?_
            try simp only [Act.put, List.getElem_toArray, List.getElem_cons_succ, List.getElem_cons_zero, List.setIfInBounds_toArray, List.set_cons_zero, List.set_cons_succ]
            refine wpAnyH_take (i := 6) (v := undef) rfl (by kernel_rfl) (by kernel_rfl) (by kernel_rfl) (fun _ _ _ h => h) (Or.inr ⟨by rfl, rfl⟩) hHeld ?_
            try simp only [Act.put, List.getElem_toArray, List.getElem_cons_succ, List.getElem_cons_zero, List.setIfInBounds_toArray, List.set_cons_zero, List.set_cons_succ]
            refine wpAnyH_take (i := 7) (v := undef) rfl (by kernel_rfl) (by kernel_rfl) (by kernel_rfl) (fun _ _ _ h => h) (Or.inr ⟨by rfl, rfl⟩) hHeld ?_
            try simp only [Act.put, List.getElem_toArray, List.getElem_cons_succ, List.getElem_cons_zero, List.setIfInBounds_toArray, List.set_cons_zero, List.set_cons_succ]
            refine wpAnyH_take (i := 8) (v := undef) rfl (by kernel_rfl) (by kernel_rfl) (by kernel_rfl) (fun _ _ _ h => h) (Or.inr ⟨by rfl, rfl⟩) hHeld ?_
            try simp only [Act.put, List.getElem_toArray, List.getElem_cons_succ, List.getElem_cons_zero, List.setIfInBounds_toArray, List.set_cons_zero, List.set_cons_succ]
            refine wpAnyH_take (i := 9) (v := ?_) rfl (by kernel_rfl) (by kernel_rfl) (by kernel_rfl) (fun _ _ _ h => h) (Or.inl ⟨by rfl, ?_⟩) hHeld ?_
            rotate_left
            · intro w' hSw; try dsimp only at hSw
              go_simp; try (with_reducible rfl)
            try simp only [Act.put, List.getElem_toArray, List.getElem_cons_succ, List.getElem_cons_zero, List.setIfInBounds_toArray, List.set_cons_zero, List.set_cons_succ]
            refine wpAnyH_take (i := 10) (v := ?_) rfl (by kernel_rfl) (by kernel_rfl) (by kernel_rfl) (fun _ _ _ h => h) (Or.inl ⟨by rfl, ?_⟩) hHeld ?_
            rotate_left
            · intro w' hSw; try dsimp only at hSw
              go_simp; try (with_reducible rfl)
            try simp only [Act.put, List.getElem_toArray, List.getElem_cons_succ, List.getElem_cons_zero, List.setIfInBounds_toArray, List.set_cons_zero, List.set_cons_succ]
            refine wpAnyH_take (i := 11) (v := undef) rfl (by kernel_rfl) (by kernel_rfl) (by kernel_rfl) (fun _ _ _ h => h) (Or.inr ⟨by rfl, rfl⟩) hHeld ?_
            try simp only [Act.put, List.getElem_toArray, List.getElem_cons_succ, List.getElem_cons_zero, List.setIfInBounds_toArray, List.set_cons_zero, List.set_cons_succ]
            refine wpAnyH_take (i := 12) (v := undef) rfl (by kernel_rfl) (by kernel_rfl) (by kernel_rfl) (fun _ _ _ h => h) (Or.inr ⟨by rfl, rfl⟩) hHeld ?_
            try simp only [Act.put, List.getElem_toArray, List.getElem_cons_succ, List.getElem_cons_zero, List.setIfInBounds_toArray, List.set_cons_zero, List.set_cons_succ]
            refine wpAnyH_take (i := 13) (v := undef) rfl (by kernel_rfl) (by kernel_rfl) (by kernel_rfl) (fun _ _ _ h => h) (Or.inr ⟨by rfl, rfl⟩) hHeld ?_
            try simp only [Act.put, List.getElem_toArray, List.getElem_cons_succ, List.getElem_cons_zero, List.setIfInBounds_toArray, List.set_cons_zero, List.set_cons_succ]
            refine wpAnyH_take (i := 14) (v := undef) rfl (by kernel_rfl) (by kernel_rfl) (by kernel_rfl) (fun _ _ _ h => h) (Or.inr ⟨by rfl, rfl⟩) hHeld ?_
            try simp only [Act.put, List.getElem_toArray, List.getElem_cons_succ, List.getElem_cons_zero, List.setIfInBounds_toArray, List.set_cons_zero, List.set_cons_succ]
            refine wpAnyH_take (i := 15) (v := undef) rfl (by kernel_rfl) (by kernel_rfl) (by kernel_rfl) (fun _ _ _ h => h) (Or.inr ⟨by rfl, rfl⟩) hHeld ?_
            try simp only [Act.put, List.getElem_toArray, List.getElem_cons_succ, List.getElem_cons_zero, List.setIfInBounds_toArray, List.set_cons_zero, List.set_cons_succ]
            refine wpAnyH_take (i := 16) (v := undef) rfl (by kernel_rfl) (by kernel_rfl) (by kernel_rfl) (fun _ _ _ h => h) (Or.inr ⟨by rfl, rfl⟩) hHeld ?_
            try simp only [Act.put, List.getElem_toArray, List.getElem_cons_succ, List.getElem_cons_zero, List.setIfInBounds_toArray, List.set_cons_zero, List.set_cons_succ]
            refine wpAnyH_take (i := 17) (v := undef) rfl (by kernel_rfl) (by kernel_rfl) (by kernel_rfl) (fun _ _ _ h => h) (Or.inr ⟨by rfl, rfl⟩) hHeld ?_
            try simp only [Act.put, List.getElem_toArray, List.getElem_cons_succ, List.getElem_cons_zero, List.setIfInBounds_toArray, List.set_cons_zero, List.set_cons_succ]
            refine wpAnyH_take (i := 18) (v := undef) rfl (by kernel_rfl) (by kernel_rfl) (by kernel_rfl) (fun _ _ _ h => h) (Or.inr ⟨by rfl, rfl⟩) hHeld ?_
            try simp only [Act.put, List.getElem_toArray, List.getElem_cons_succ, List.getElem_cons_zero, List.setIfInBounds_toArray, List.set_cons_zero, List.set_cons_succ]
            refine wpAnyH_take (i := 19) (v := undef) rfl (by kernel_rfl) (by kernel_rfl) (by kernel_rfl) (fun _ _ _ h => h) (Or.inr ⟨by rfl, rfl⟩) hHeld ?_
            try simp only [Act.put, List.getElem_toArray, List.getElem_cons_succ, List.getElem_cons_zero, List.setIfInBounds_toArray, List.set_cons_zero, List.set_cons_succ]
            refine wpAnyH_take (i := 20) (v := undef) rfl (by kernel_rfl) (by kernel_rfl) (by kernel_rfl) (fun _ _ _ h => h) (Or.inr ⟨by rfl, rfl⟩) hHeld ?_
            try simp only [Act.put, List.getElem_toArray, List.getElem_cons_succ, List.getElem_cons_zero, List.setIfInBounds_toArray, List.set_cons_zero, List.set_cons_succ]
            refine wpAnyH_take (i := 21) (v := ?_) rfl (by kernel_rfl) (by kernel_rfl) (by kernel_rfl) (fun _ _ _ h => h) (Or.inl ⟨by rfl, ?_⟩) hHeld ?_
            rotate_left
            · intro w' hSw; try dsimp only at hSw
              go_simp; try (with_reducible rfl)
            try simp only [Act.put, List.getElem_toArray, List.getElem_cons_succ, List.getElem_cons_zero, List.setIfInBounds_toArray, List.set_cons_zero, List.set_cons_succ]
            refine wpAnyH_done (by kernel_rfl) ?_ _
            refine NoPanic.normal ?_
            have hbR := bt hb2 hHeld.2
            have hoR := owns_below hown3.out hHeld.2
            go_wp2_with fail
            go_roundw
            case rel => exact ⟨k + 1, by omega, by go_num, by rw [HB.out], hoR, hbR⟩
            case measure => simp [intOf]; omega
          | true =>
            by_cases hxp : xp = (j : Int)
            · have hpe : (xp == (j : Int)) = true := by rw [hxp]; simp
              have hh : hitB P j ⟨xh, xg, xk, xp, xs', xt⟩ = true := by unfold hitB; rw [hcn, Bool.true_and]; exact hpe
              rw [hh, Bool.true_and] at HB0
              clear hh hxp
              rcases hat with hA | ⟨a, han, hA⟩
              · have HB : Hid (bestI P j xs (k + 1) = (k : Int)) := by show _ = _; rw [HB0.out, hA]; rfl
                subst hA
                clear HB0 hcl
                go_upto_region 13 with (fail)
                refine wp_region_noPanic ?_
                refine wp_region_held_drew (S := fun X => Blk X wr.heap.size 33 [.int .i64 xh, .int .i64 xg, .int .i64 xk, .int .i64 xp, .int .i64 xs', .int .i64 xt] ∧ Below wr.heap.size wr X) (by kernel_rfl) ⟨bb.drew, bw.drew⟩ (fun hHeld => ?_)
                refine wpAnyH_take (i := 0) (v := ?_) rfl (by kernel_rfl) (by kernel_rfl) (by kernel_rfl) (fun _ _ _ h => h) (Or.inl ⟨by rfl, ?_⟩) hHeld ?_
                rotate_left
                · intro w' hSw; try dsimp only at hSw
                  go_simp; try (with_reducible rfl)
                try simp only [Act.put, List.getElem_toArray, List.getElem_cons_succ, List.getElem_cons_zero, List.setIfInBounds_toArray, List.set_cons_zero, List.set_cons_succ]
                refine wpAnyH_take (i := 1) (v := ?_) rfl (by kernel_rfl) (by kernel_rfl) (by kernel_rfl) (fun _ _ _ h => h) (Or.inl ⟨by rfl, ?_⟩) hHeld ?_
                rotate_left
                · intro w' hSw; try dsimp only at hSw
                  obtain ⟨b1, b2⟩ := hSw
                  have z0 := b1.cell' (i := 0) rfl
                  have z1 := b1.cell' (i := 1) rfl
                  have z2 := b1.cell' (i := 2) rfl
                  have z3 := b1.cell' (i := 3) rfl
                  have z4 := b1.cell' (i := 4) rfl
                  have z5 := b1.cell' (i := 5) rfl
                  go_simp; try (with_reducible rfl)
                try simp only [Act.put, List.getElem_toArray, List.getElem_cons_succ, List.getElem_cons_zero, List.setIfInBounds_toArray, List.set_cons_zero, List.set_cons_succ]
                refine wpAnyH_ready (rs := [2]) (by kernel_rfl) (by simp) ?_
                refine AllReadyH.cons rfl (fun K hK => ?_) AllReadyH.nil
                go_simp
                refine (counts_any P ⟨xh, xg, xk, xp, xs', xt⟩ _).mono ?_
                rintro e W2 ⟨rfl, hbn⟩
                try go_wp2_with fail
                refine hK.out _ _ ⟨hHeld.1.kept hbn, bt hHeld.2 hbn⟩ (fun hHeld => ?_)
                clear hK K
                try simp only [Act.put, List.getElem_toArray, List.getElem_cons_succ, List.getElem_cons_zero, List.setIfInBounds_toArray, List.set_cons_zero, List.set_cons_succ]
                clear hbn
                refine wpAnyH_take (i := 3) (v := ?_) rfl (by kernel_rfl) (by kernel_rfl) (by kernel_rfl) (fun _ _ _ h => h) (Or.inl ⟨by rfl, ?_⟩) hHeld ?_
                rotate_left
                · intro w' hSw; try dsimp only at hSw
                  go_simp; try (with_reducible rfl)
                try simp only [Act.put, List.getElem_toArray, List.getElem_cons_succ, List.getElem_cons_zero, List.setIfInBounds_toArray, List.set_cons_zero, List.set_cons_succ]
                refine wpAnyH_take (i := 4) (v := ?_) rfl (by kernel_rfl) (by kernel_rfl) (by kernel_rfl) (fun _ _ _ h => h) (Or.inl ⟨by rfl, ?_⟩) hHeld ?_
                rotate_left
                · intro w' hSw; try dsimp only at hSw
                  go_simp; try (with_reducible rfl)
                try simp only [Act.put, List.getElem_toArray, List.getElem_cons_succ, List.getElem_cons_zero, List.setIfInBounds_toArray, List.set_cons_zero, List.set_cons_succ]
                refine wpAnyH_take (i := 5) (v := ?_) rfl (by kernel_rfl) (by kernel_rfl) (by kernel_rfl) (fun _ _ _ h => h) (Or.inl ⟨by rfl, ?_⟩) hHeld ?_
                rotate_left
                · intro w' hSw; try dsimp only at hSw
                  go_simp; try (with_reducible rfl)
                try simp only [Act.put, List.getElem_toArray, List.getElem_cons_succ, List.getElem_cons_zero, List.setIfInBounds_toArray, List.set_cons_zero, List.set_cons_succ]
                refine wpAnyH_take (i := 6) (v := ?_) rfl (by kernel_rfl) (by kernel_rfl) (by kernel_rfl) (fun _ _ _ h => h) (Or.inl ⟨by rfl, ?_⟩) hHeld ?_
                rotate_left
                · intro w' hSw; try dsimp only at hSw
                  obtain ⟨b1, b2⟩ := hSw
                  have z0 := b1.cell' (i := 0) rfl
                  have z1 := b1.cell' (i := 1) rfl
                  have z2 := b1.cell' (i := 2) rfl
                  have z3 := b1.cell' (i := 3) rfl
                  have z4 := b1.cell' (i := 4) rfl
                  have z5 := b1.cell' (i := 5) rfl
                  go_simp; try (with_reducible rfl)
                try simp only [Act.put, List.getElem_toArray, List.getElem_cons_succ, List.getElem_cons_zero, List.setIfInBounds_toArray, List.set_cons_zero, List.set_cons_succ]
                refine wpAnyH_take (i := 7) (v := ?_) rfl (by kernel_rfl) (by kernel_rfl) (by kernel_rfl) (fun _ _ _ h => h) (Or.inl ⟨by rfl, ?_⟩) hHeld ?_
                rotate_left
                · intro w' hSw; try dsimp only at hSw
                  go_simp; try (with_reducible rfl)
                try simp only [Act.put, List.getElem_toArray, List.getElem_cons_succ, List.getElem_cons_zero, List.setIfInBounds_toArray, List.set_cons_zero, List.set_cons_succ]
                refine wpAnyH_take (i := 8) (v := ?_) rfl (by kernel_rfl) (by kernel_rfl) (by kernel_rfl) (fun _ _ _ h => h) (Or.inl ⟨by rfl, ?_⟩) hHeld ?_
                rotate_left
                · intro w' hSw; try dsimp only at hSw
                  go_simp; try (with_reducible rfl)
                try simp only [Act.put, List.getElem_toArray, List.getElem_cons_succ, List.getElem_cons_zero, List.setIfInBounds_toArray, List.set_cons_zero, List.set_cons_succ]
                refine wpAnyH_take (i := 9) (v := ?_) rfl (by kernel_rfl) (by kernel_rfl) (by kernel_rfl) (fun _ _ _ h => h) (Or.inl ⟨by rfl, ?_⟩) hHeld ?_
                rotate_left
                · intro w' hSw; try dsimp only at hSw
                  go_simp; try (with_reducible rfl)
                try simp only [Act.put, List.getElem_toArray, List.getElem_cons_succ, List.getElem_cons_zero, List.setIfInBounds_toArray, List.set_cons_zero, List.set_cons_succ]
                refine wpAnyH_take (i := 10) (v := ?_) rfl (by kernel_rfl) (by kernel_rfl) (by kernel_rfl) (fun _ _ _ h => h) (Or.inl ⟨by rfl, ?_⟩) hHeld ?_
                rotate_left
                · intro w' hSw; try dsimp only at hSw
                  go_simp; try (with_reducible rfl)
                try simp only [Act.put, List.getElem_toArray, List.getElem_cons_succ, List.getElem_cons_zero, List.setIfInBounds_toArray, List.set_cons_zero, List.set_cons_succ]
                refine wpAnyH_take (i := 11) (v := ?_) rfl (by kernel_rfl) (by kernel_rfl) (by kernel_rfl) (fun _ _ _ h => h) (Or.inl ⟨by rfl, ?_⟩) hHeld ?_
                rotate_left
                · intro w' hSw; try dsimp only at hSw
                  go_simp; try (with_reducible rfl)
                try simp only [Act.put, List.getElem_toArray, List.getElem_cons_succ, List.getElem_cons_zero, List.setIfInBounds_toArray, List.set_cons_zero, List.set_cons_succ]
                refine wpAnyH_take (i := 12) (v := ?_) rfl (by kernel_rfl) (by kernel_rfl) (by kernel_rfl) (fun _ _ _ h => h) (Or.inl ⟨by rfl, ?_⟩) hHeld ?_
                rotate_left
                · intro w' hSw; try dsimp only at hSw
                  go_simp; try (with_reducible rfl)
                try simp only [Act.put, List.getElem_toArray, List.getElem_cons_succ, List.getElem_cons_zero, List.setIfInBounds_toArray, List.set_cons_zero, List.set_cons_succ]
                refine wpAnyH_take (i := 13) (v := ?_) rfl (by kernel_rfl) (by kernel_rfl) (by kernel_rfl) (fun _ _ _ h => h) (Or.inl ⟨by rfl, ?_⟩) hHeld ?_
                rotate_left
                · intro w' hSw; try dsimp only at hSw
                  go_simp; try (with_reducible rfl)
                try simp only [Act.put, List.getElem_toArray, List.getElem_cons_succ, List.getElem_cons_zero, List.setIfInBounds_toArray, List.set_cons_zero, List.set_cons_succ]
                refine wpAnyH_take (i := 14) (v := undef) rfl (by kernel_rfl) (by kernel_rfl) (by kernel_rfl) (fun _ _ _ h => h) (Or.inr ⟨by rfl, rfl⟩) hHeld ?_
                try simp only [Act.put, List.getElem_toArray, List.getElem_cons_succ, List.getElem_cons_zero, List.setIfInBounds_toArray, List.set_cons_zero, List.set_cons_succ]
                refine wpAnyH_take (i := 15) (v := undef) rfl (by kernel_rfl) (by kernel_rfl) (by kernel_rfl) (fun _ _ _ h => h) (Or.inr ⟨by rfl, rfl⟩) hHeld ?_
                try simp only [Act.put, List.getElem_toArray, List.getElem_cons_succ, List.getElem_cons_zero, List.setIfInBounds_toArray, List.set_cons_zero, List.set_cons_succ]
                refine wpAnyH_take (i := 16) (v := undef) rfl (by kernel_rfl) (by kernel_rfl) (by kernel_rfl) (fun _ _ _ h => h) (Or.inr ⟨by rfl, rfl⟩) hHeld ?_
                try simp only [Act.put, List.getElem_toArray, List.getElem_cons_succ, List.getElem_cons_zero, List.setIfInBounds_toArray, List.set_cons_zero, List.set_cons_succ]
                refine wpAnyH_take (i := 17) (v := undef) rfl (by kernel_rfl) (by kernel_rfl) (by kernel_rfl) (fun _ _ _ h => h) (Or.inr ⟨by rfl, rfl⟩) hHeld ?_
                try simp only [Act.put, List.getElem_toArray, List.getElem_cons_succ, List.getElem_cons_zero, List.setIfInBounds_toArray, List.set_cons_zero, List.set_cons_succ]
                refine wpAnyH_take (i := 18) (v := undef) rfl (by kernel_rfl) (by kernel_rfl) (by kernel_rfl) (fun _ _ _ h => h) (Or.inr ⟨by rfl, rfl⟩) hHeld ?_
                try simp only [Act.put, List.getElem_toArray, List.getElem_cons_succ, List.getElem_cons_zero, List.setIfInBounds_toArray, List.set_cons_zero, List.set_cons_succ]
                refine wpAnyH_take (i := 19) (v := undef) rfl (by kernel_rfl) (by kernel_rfl) (by kernel_rfl) (fun _ _ _ h => h) (Or.inr ⟨by rfl, rfl⟩) hHeld ?_
                try simp only [Act.put, List.getElem_toArray, List.getElem_cons_succ, List.getElem_cons_zero, List.setIfInBounds_toArray, List.set_cons_zero, List.set_cons_succ]
                refine wpAnyH_take (i := 20) (v := ?_) rfl (by kernel_rfl) (by kernel_rfl) (by kernel_rfl) (fun _ _ _ h => h) (Or.inl ⟨by rfl, ?_⟩) hHeld ?_
                rotate_left
                · intro w' hSw; try dsimp only at hSw
                  go_simp; try (with_reducible rfl)
                try simp only [Act.put, List.getElem_toArray, List.getElem_cons_succ, List.getElem_cons_zero, List.setIfInBounds_toArray, List.set_cons_zero, List.set_cons_succ]
                refine wpAnyH_take (i := 21) (v := ?_) rfl (by kernel_rfl) (by kernel_rfl) (by kernel_rfl) (fun _ _ _ h => h) (Or.inl ⟨by rfl, ?_⟩) hHeld ?_
                rotate_left
                · intro w' hSw; try dsimp only at hSw
                  go_simp; try (with_reducible rfl)
                try simp only [Act.put, List.getElem_toArray, List.getElem_cons_succ, List.getElem_cons_zero, List.setIfInBounds_toArray, List.set_cons_zero, List.set_cons_succ]
                refine wpAnyH_done (by kernel_rfl) ?_ _
                refine NoPanic.normal ?_
                have hbR := bt hb2 hHeld.2
                have hoR := owns_below hown3.out hHeld.2
                go_wp2_with fail
                go_roundw
                case rel => exact ⟨k + 1, by omega, by go_num, by rw [HB.out], hoR, hbR⟩
                case measure => simp [intOf]; omega
              · subst hA
                have hai : (a : Int) < (n : Int) := by omega
                have han0 : ¬ (a : Int) < 0 := by omega
                rw [Int.toNat_natCast, show decide ((a : Int) < 0) = false by simp, Bool.false_or] at HB0
                have hel2 : ∀ W, Below wr.heap.size wr W → W.cell? ⟨b, o + a * 6, none⟩ = some (.int .i64 (eF xs a).ph) ∧ W.cell? ⟨b, o + a * 6 + 1, none⟩ = some (.int .i64 (eF xs a).pg) ∧ W.cell? ⟨b, o + a * 6 + 2, none⟩ = some (.int .i64 (eF xs a).k) ∧ W.cell? ⟨b, o + a * 6 + 3, none⟩ = some (.int .i64 (eF xs a).p) ∧ W.cell? ⟨b, o + a * 6 + 4, none⟩ = some (.int .i64 (eF xs a).s) ∧ W.cell? ⟨b, o + a * 6 + 5, none⟩ = some (.int .i64 (eF xs a).t) := fun W hb => by
                  have hk' := fun i => hb.cell (p := ⟨b, i, none⟩) hbl
                  obtain ⟨u0, u1, u2, u3, u4, u5⟩ := hcl a han
                  exact ⟨(hk' _).trans u0, (hk' _).trans u1, (hk' _).trans u2, (hk' _).trans u3, (hk' _).trans u4, (hk' _).trans u5⟩
                clear hcl
                generalize eF xs a = y at *
                obtain ⟨yh, yg, yk, yp, ys', yt⟩ := y
                dsimp only at hel2
                cases hah : aheadB ⟨xh, xg, xk, xp, xs', xt⟩ ⟨yh, yg, yk, yp, ys', yt⟩ with
                | true =>
                  have HB : Hid (bestI P j xs (k + 1) = (k : Int)) := by show _ = _; rw [HB0.out, hah]; rfl
                  clear HB0
                  go_upto_region 13 with (fail)
                  refine wp_region_noPanic ?_
                  refine wp_region_held_drew (S := fun X => Blk X wr.heap.size 33 [.int .i64 xh, .int .i64 xg, .int .i64 xk, .int .i64 xp, .int .i64 xs', .int .i64 xt] ∧ Below wr.heap.size wr X) (by kernel_rfl) ⟨bb.drew, bw.drew⟩ (fun hHeld => ?_)
                  refine wpAnyH_take (i := 0) (v := ?_) rfl (by kernel_rfl) (by kernel_rfl) (by kernel_rfl) (fun _ _ _ h => h) (Or.inl ⟨by rfl, ?_⟩) hHeld ?_
                  rotate_left
                  · intro w' hSw; try dsimp only at hSw
                    go_simp; try (with_reducible rfl)
                  try simp only [Act.put, List.getElem_toArray, List.getElem_cons_succ, List.getElem_cons_zero, List.setIfInBounds_toArray, List.set_cons_zero, List.set_cons_succ]
                  refine wpAnyH_take (i := 1) (v := ?_) rfl (by kernel_rfl) (by kernel_rfl) (by kernel_rfl) (fun _ _ _ h => h) (Or.inl ⟨by rfl, ?_⟩) hHeld ?_
                  rotate_left
                  · intro w' hSw; try dsimp only at hSw
                    obtain ⟨b1, b2⟩ := hSw
                    have z0 := b1.cell' (i := 0) rfl
                    have z1 := b1.cell' (i := 1) rfl
                    have z2 := b1.cell' (i := 2) rfl
                    have z3 := b1.cell' (i := 3) rfl
                    have z4 := b1.cell' (i := 4) rfl
                    have z5 := b1.cell' (i := 5) rfl
                    go_simp; try (with_reducible rfl)
                  try simp only [Act.put, List.getElem_toArray, List.getElem_cons_succ, List.getElem_cons_zero, List.setIfInBounds_toArray, List.set_cons_zero, List.set_cons_succ]
                  refine wpAnyH_ready (rs := [2]) (by kernel_rfl) (by simp) ?_
                  refine AllReadyH.cons rfl (fun K hK => ?_) AllReadyH.nil
                  go_simp
                  refine (counts_any P ⟨xh, xg, xk, xp, xs', xt⟩ _).mono ?_
                  rintro e W2 ⟨rfl, hbn⟩
                  try go_wp2_with fail
                  refine hK.out _ _ ⟨hHeld.1.kept hbn, bt hHeld.2 hbn⟩ (fun hHeld => ?_)
                  clear hK K
                  try simp only [Act.put, List.getElem_toArray, List.getElem_cons_succ, List.getElem_cons_zero, List.setIfInBounds_toArray, List.set_cons_zero, List.set_cons_succ]
                  clear hbn
                  refine wpAnyH_take (i := 3) (v := ?_) rfl (by kernel_rfl) (by kernel_rfl) (by kernel_rfl) (fun _ _ _ h => h) (Or.inl ⟨by rfl, ?_⟩) hHeld ?_
                  rotate_left
                  · intro w' hSw; try dsimp only at hSw
                    go_simp; try (with_reducible rfl)
                  try simp only [Act.put, List.getElem_toArray, List.getElem_cons_succ, List.getElem_cons_zero, List.setIfInBounds_toArray, List.set_cons_zero, List.set_cons_succ]
                  refine wpAnyH_take (i := 4) (v := ?_) rfl (by kernel_rfl) (by kernel_rfl) (by kernel_rfl) (fun _ _ _ h => h) (Or.inl ⟨by rfl, ?_⟩) hHeld ?_
                  rotate_left
                  · intro w' hSw; try dsimp only at hSw
                    go_simp; try (with_reducible rfl)
                  try simp only [Act.put, List.getElem_toArray, List.getElem_cons_succ, List.getElem_cons_zero, List.setIfInBounds_toArray, List.set_cons_zero, List.set_cons_succ]
                  refine wpAnyH_take (i := 5) (v := ?_) rfl (by kernel_rfl) (by kernel_rfl) (by kernel_rfl) (fun _ _ _ h => h) (Or.inl ⟨by rfl, ?_⟩) hHeld ?_
                  rotate_left
                  · intro w' hSw; try dsimp only at hSw
                    go_simp; try (with_reducible rfl)
                  try simp only [Act.put, List.getElem_toArray, List.getElem_cons_succ, List.getElem_cons_zero, List.setIfInBounds_toArray, List.set_cons_zero, List.set_cons_succ]
                  refine wpAnyH_take (i := 6) (v := ?_) rfl (by kernel_rfl) (by kernel_rfl) (by kernel_rfl) (fun _ _ _ h => h) (Or.inl ⟨by rfl, ?_⟩) hHeld ?_
                  rotate_left
                  · intro w' hSw; try dsimp only at hSw
                    obtain ⟨b1, b2⟩ := hSw
                    have z0 := b1.cell' (i := 0) rfl
                    have z1 := b1.cell' (i := 1) rfl
                    have z2 := b1.cell' (i := 2) rfl
                    have z3 := b1.cell' (i := 3) rfl
                    have z4 := b1.cell' (i := 4) rfl
                    have z5 := b1.cell' (i := 5) rfl
                    go_simp; try (with_reducible rfl)
                  try simp only [Act.put, List.getElem_toArray, List.getElem_cons_succ, List.getElem_cons_zero, List.setIfInBounds_toArray, List.set_cons_zero, List.set_cons_succ]
                  refine wpAnyH_take (i := 7) (v := ?_) rfl (by kernel_rfl) (by kernel_rfl) (by kernel_rfl) (fun _ _ _ h => h) (Or.inl ⟨by rfl, ?_⟩) hHeld ?_
                  rotate_left
                  · intro w' hSw; try dsimp only at hSw
                    go_simp; try (with_reducible rfl)
                  try simp only [Act.put, List.getElem_toArray, List.getElem_cons_succ, List.getElem_cons_zero, List.setIfInBounds_toArray, List.set_cons_zero, List.set_cons_succ]
                  refine wpAnyH_take (i := 8) (v := ?_) rfl (by kernel_rfl) (by kernel_rfl) (by kernel_rfl) (fun _ _ _ h => h) (Or.inl ⟨by rfl, ?_⟩) hHeld ?_
                  rotate_left
                  · intro w' hSw; try dsimp only at hSw
                    go_simp; try (with_reducible rfl)
                  try simp only [Act.put, List.getElem_toArray, List.getElem_cons_succ, List.getElem_cons_zero, List.setIfInBounds_toArray, List.set_cons_zero, List.set_cons_succ]
                  refine wpAnyH_take (i := 9) (v := ?_) rfl (by kernel_rfl) (by kernel_rfl) (by kernel_rfl) (fun _ _ _ h => h) (Or.inl ⟨by rfl, ?_⟩) hHeld ?_
                  rotate_left
                  · intro w' hSw; try dsimp only at hSw
                    go_simp; try (with_reducible rfl)
                  try simp only [Act.put, List.getElem_toArray, List.getElem_cons_succ, List.getElem_cons_zero, List.setIfInBounds_toArray, List.set_cons_zero, List.set_cons_succ]
                  refine wpAnyH_take (i := 10) (v := ?_) rfl (by kernel_rfl) (by kernel_rfl) (by kernel_rfl) (fun _ _ _ h => h) (Or.inl ⟨by rfl, ?_⟩) hHeld ?_
                  rotate_left
                  · intro w' hSw; try dsimp only at hSw
                    go_simp; try (with_reducible rfl)
                  try simp only [Act.put, List.getElem_toArray, List.getElem_cons_succ, List.getElem_cons_zero, List.setIfInBounds_toArray, List.set_cons_zero, List.set_cons_succ]
                  refine wpAnyH_take (i := 11) (v := ?_) rfl (by kernel_rfl) (by kernel_rfl) (by kernel_rfl) (fun _ _ _ h => h) (Or.inl ⟨by rfl, ?_⟩) hHeld ?_
                  rotate_left
                  · intro w' hSw; try dsimp only at hSw
                    go_simp; try (with_reducible rfl)
                  try simp only [Act.put, List.getElem_toArray, List.getElem_cons_succ, List.getElem_cons_zero, List.setIfInBounds_toArray, List.set_cons_zero, List.set_cons_succ]
                  refine wpAnyH_take (i := 12) (v := ?_) rfl (by kernel_rfl) (by kernel_rfl) (by kernel_rfl) (fun _ _ _ h => h) (Or.inl ⟨by rfl, ?_⟩) hHeld ?_
                  rotate_left
                  · intro w' hSw; try dsimp only at hSw
                    go_simp; try (with_reducible rfl)
                  try simp only [Act.put, List.getElem_toArray, List.getElem_cons_succ, List.getElem_cons_zero, List.setIfInBounds_toArray, List.set_cons_zero, List.set_cons_succ]
                  refine wpAnyH_take (i := 13) (v := ?_) rfl (by kernel_rfl) (by kernel_rfl) (by kernel_rfl) (fun _ _ _ h => h) (Or.inl ⟨by rfl, ?_⟩) hHeld ?_
                  rotate_left
                  · intro w' hSw; try dsimp only at hSw
                    go_simp; try (with_reducible rfl)
                  try simp only [Act.put, List.getElem_toArray, List.getElem_cons_succ, List.getElem_cons_zero, List.setIfInBounds_toArray, List.set_cons_zero, List.set_cons_succ]
                  refine wpAnyH_take (i := 14) (v := ?_) rfl (by kernel_rfl) (by kernel_rfl) (by kernel_rfl) (fun _ _ _ h => h) (Or.inl ⟨by rfl, ?_⟩) hHeld ?_
                  rotate_left
                  · intro w' hSw; try dsimp only at hSw
                    obtain ⟨b1, b2⟩ := hSw
                    have z0 := b1.cell' (i := 0) rfl
                    have z1 := b1.cell' (i := 1) rfl
                    have z2 := b1.cell' (i := 2) rfl
                    have z3 := b1.cell' (i := 3) rfl
                    have z4 := b1.cell' (i := 4) rfl
                    have z5 := b1.cell' (i := 5) rfl
                    obtain ⟨u0, u1, u2, u3, u4, u5⟩ := hel2 _ b2
                    go_simp; try (with_reducible rfl)
                  try simp only [Act.put, List.getElem_toArray, List.getElem_cons_succ, List.getElem_cons_zero, List.setIfInBounds_toArray, List.set_cons_zero, List.set_cons_succ]
                  refine wpAnyH_take (i := 15) (v := ?_) rfl (by kernel_rfl) (by kernel_rfl) (by kernel_rfl) (fun _ _ _ h => h) (Or.inl ⟨by rfl, ?_⟩) hHeld ?_
                  rotate_left
                  · intro w' hSw; try dsimp only at hSw
                    go_simp; try (with_reducible rfl)
                  try simp only [Act.put, List.getElem_toArray, List.getElem_cons_succ, List.getElem_cons_zero, List.setIfInBounds_toArray, List.set_cons_zero, List.set_cons_succ]
                  refine wpAnyH_take (i := 16) (v := ?_) rfl (by kernel_rfl) (by kernel_rfl) (by kernel_rfl) (fun _ _ _ h => h) (Or.inl ⟨by rfl, ?_⟩) hHeld ?_
                  rotate_left
                  · intro w' hSw; try dsimp only at hSw
                    go_simp; try (with_reducible rfl)
                  try simp only [Act.put, List.getElem_toArray, List.getElem_cons_succ, List.getElem_cons_zero, List.setIfInBounds_toArray, List.set_cons_zero, List.set_cons_succ]
                  refine wpAnyH_take (i := 17) (v := ?_) rfl (by kernel_rfl) (by kernel_rfl) (by kernel_rfl) (fun _ _ _ h => h) (Or.inl ⟨by rfl, ?_⟩) hHeld ?_
                  rotate_left
                  · intro w' hSw; try dsimp only at hSw
                    go_simp; try (with_reducible rfl)
                  try simp only [Act.put, List.getElem_toArray, List.getElem_cons_succ, List.getElem_cons_zero, List.setIfInBounds_toArray, List.set_cons_zero, List.set_cons_succ]
                  refine wpAnyH_take (i := 18) (v := ?_) rfl (by kernel_rfl) (by kernel_rfl) (by kernel_rfl) (fun _ _ _ h => h) (Or.inl ⟨by rfl, ?_⟩) hHeld ?_
                  rotate_left
                  · intro w' hSw; try dsimp only at hSw
                    obtain ⟨b1, b2⟩ := hSw
                    have z0 := b1.cell' (i := 0) rfl
                    have z1 := b1.cell' (i := 1) rfl
                    have z2 := b1.cell' (i := 2) rfl
                    have z3 := b1.cell' (i := 3) rfl
                    have z4 := b1.cell' (i := 4) rfl
                    have z5 := b1.cell' (i := 5) rfl
                    obtain ⟨u0, u1, u2, u3, u4, u5⟩ := hel2 _ b2
                    go_simp; try (with_reducible rfl)
                  try simp only [Act.put, List.getElem_toArray, List.getElem_cons_succ, List.getElem_cons_zero, List.setIfInBounds_toArray, List.set_cons_zero, List.set_cons_succ]
                  refine wpAnyH_ready (rs := [19]) (by kernel_rfl) (by simp) ?_
                  refine AllReadyH.cons rfl (fun K hK => ?_) AllReadyH.nil
                  go_simp
                  refine (less_any ⟨xh, xg, xk, xp, xs', xt⟩ ⟨yh, yg, yk, yp, ys', yt⟩ _).mono ?_
                  rintro e W3 ⟨rfl, hbn⟩
                  try go_wp2_with fail
                  refine hK.out _ _ ⟨hHeld.1.kept hbn, bt hHeld.2 hbn⟩ (fun hHeld => ?_)
                  clear hK K
                  try simp only [Act.put, List.getElem_toArray, List.getElem_cons_succ, List.getElem_cons_zero, List.setIfInBounds_toArray, List.set_cons_zero, List.set_cons_succ]
                  clear hbn
                  refine wpAnyH_take (i := 20) (v := ?_) rfl (by kernel_rfl) (by kernel_rfl) (by kernel_rfl) (fun _ _ _ h => h) (Or.inl ⟨by rfl, ?_⟩) hHeld ?_
                  rotate_left
                  · intro w' hSw; try dsimp only at hSw
                    go_simp; try (with_reducible rfl)
                  try simp only [Act.put, List.getElem_toArray, List.getElem_cons_succ, List.getElem_cons_zero, List.setIfInBounds_toArray, List.set_cons_zero, List.set_cons_succ]
                  refine wpAnyH_take (i := 21) (v := ?_) rfl (by kernel_rfl) (by kernel_rfl) (by kernel_rfl) (fun _ _ _ h => h) (Or.inl ⟨by rfl, ?_⟩) hHeld ?_
                  rotate_left
                  · intro w' hSw; try dsimp only at hSw
                    go_simp; try (with_reducible rfl)
                  try simp only [Act.put, List.getElem_toArray, List.getElem_cons_succ, List.getElem_cons_zero, List.setIfInBounds_toArray, List.set_cons_zero, List.set_cons_succ]
                  refine wpAnyH_done (by kernel_rfl) ?_ _
                  refine NoPanic.normal ?_
                  have hbR := bt hb2 hHeld.2
                  have hoR := owns_below hown3.out hHeld.2
                  go_wp2_with fail
                  go_roundw
                  case rel => exact ⟨k + 1, by omega, by go_num, by rw [HB.out], hoR, hbR⟩
                  case measure => simp [intOf]; omega
                | false =>
                  have HB : Hid (bestI P j xs (k + 1) = (a : Int)) := by show _ = _; rw [HB0.out, hah]; rfl
                  clear HB0
                  go_upto_region 13 with (fail)
                  refine wp_region_noPanic ?_
                  refine wp_region_held_drew (S := fun X => Blk X wr.heap.size 33 [.int .i64 xh, .int .i64 xg, .int .i64 xk, .int .i64 xp, .int .i64 xs', .int .i64 xt] ∧ Below wr.heap.size wr X) (by kernel_rfl) ⟨bb.drew, bw.drew⟩ (fun hHeld => ?_)
                  refine wpAnyH_take (i := 0) (v := ?_) rfl (by kernel_rfl) (by kernel_rfl) (by kernel_rfl) (fun _ _ _ h => h) (Or.inl ⟨by rfl, ?_⟩) hHeld ?_
                  rotate_left
                  · intro w' hSw; try dsimp only at hSw
                    go_simp; try (with_reducible rfl)
                  try simp only [Act.put, List.getElem_toArray, List.getElem_cons_succ, List.getElem_cons_zero, List.setIfInBounds_toArray, List.set_cons_zero, List.set_cons_succ]
                  refine wpAnyH_take (i := 1) (v := ?_) rfl (by kernel_rfl) (by kernel_rfl) (by kernel_rfl) (fun _ _ _ h => h) (Or.inl ⟨by rfl, ?_⟩) hHeld ?_
                  rotate_left
                  · intro w' hSw; try dsimp only at hSw
                    obtain ⟨b1, b2⟩ := hSw
                    have z0 := b1.cell' (i := 0) rfl
                    have z1 := b1.cell' (i := 1) rfl
                    have z2 := b1.cell' (i := 2) rfl
                    have z3 := b1.cell' (i := 3) rfl
                    have z4 := b1.cell' (i := 4) rfl
                    have z5 := b1.cell' (i := 5) rfl
                    go_simp; try (with_reducible rfl)
                  try simp only [Act.put, List.getElem_toArray, List.getElem_cons_succ, List.getElem_cons_zero, List.setIfInBounds_toArray, List.set_cons_zero, List.set_cons_succ]
                  refine wpAnyH_ready (rs := [2]) (by kernel_rfl) (by simp) ?_
                  refine AllReadyH.cons rfl (fun K hK => ?_) AllReadyH.nil
                  go_simp
                  refine (counts_any P ⟨xh, xg, xk, xp, xs', xt⟩ _).mono ?_
                  rintro e W2 ⟨rfl, hbn⟩
                  try go_wp2_with fail
                  refine hK.out _ _ ⟨hHeld.1.kept hbn, bt hHeld.2 hbn⟩ (fun hHeld => ?_)
                  clear hK K
                  try simp only [Act.put, List.getElem_toArray, List.getElem_cons_succ, List.getElem_cons_zero, List.setIfInBounds_toArray, List.set_cons_zero, List.set_cons_succ]
                  clear hbn
                  refine wpAnyH_take (i := 3) (v := ?_) rfl (by kernel_rfl) (by kernel_rfl) (by kernel_rfl) (fun _ _ _ h => h) (Or.inl ⟨by rfl, ?_⟩) hHeld ?_
                  rotate_left
                  · intro w' hSw; try dsimp only at hSw
                    go_simp; try (with_reducible rfl)
                  try simp only [Act.put, List.getElem_toArray, List.getElem_cons_succ, List.getElem_cons_zero, List.setIfInBounds_toArray, List.set_cons_zero, List.set_cons_succ]
                  refine wpAnyH_take (i := 4) (v := ?_) rfl (by kernel_rfl) (by kernel_rfl) (by kernel_rfl) (fun _ _ _ h => h) (Or.inl ⟨by rfl, ?_⟩) hHeld ?_
                  rotate_left
                  · intro w' hSw; try dsimp only at hSw
                    go_simp; try (with_reducible rfl)
                  try simp only [Act.put, List.getElem_toArray, List.getElem_cons_succ, List.getElem_cons_zero, List.setIfInBounds_toArray, List.set_cons_zero, List.set_cons_succ]
                  refine wpAnyH_take (i := 5) (v := ?_) rfl (by kernel_rfl) (by kernel_rfl) (by kernel_rfl) (fun _ _ _ h => h) (Or.inl ⟨by rfl, ?_⟩) hHeld ?_
                  rotate_left
                  · intro w' hSw; try dsimp only at hSw
                    go_simp; try (with_reducible rfl)
                  try simp only [Act.put, List.getElem_toArray, List.getElem_cons_succ, List.getElem_cons_zero, List.setIfInBounds_toArray, List.set_cons_zero, List.set_cons_succ]
                  refine wpAnyH_take (i := 6) (v := ?_) rfl (by kernel_rfl) (by kernel_rfl) (by kernel_rfl) (fun _ _ _ h => h) (Or.inl ⟨by rfl, ?_⟩) hHeld ?_
                  rotate_left
                  · intro w' hSw; try dsimp only at hSw
                    obtain ⟨b1, b2⟩ := hSw
                    have z0 := b1.cell' (i := 0) rfl
                    have z1 := b1.cell' (i := 1) rfl
                    have z2 := b1.cell' (i := 2) rfl
                    have z3 := b1.cell' (i := 3) rfl
                    have z4 := b1.cell' (i := 4) rfl
                    have z5 := b1.cell' (i := 5) rfl
                    go_simp; try (with_reducible rfl)
                  try simp only [Act.put, List.getElem_toArray, List.getElem_cons_succ, List.getElem_cons_zero, List.setIfInBounds_toArray, List.set_cons_zero, List.set_cons_succ]
                  refine wpAnyH_take (i := 7) (v := ?_) rfl (by kernel_rfl) (by kernel_rfl) (by kernel_rfl) (fun _ _ _ h => h) (Or.inl ⟨by rfl, ?_⟩) hHeld ?_
                  rotate_left
                  · intro w' hSw; try dsimp only at hSw
                    go_simp; try (with_reducible rfl)
                  try simp only [Act.put, List.getElem_toArray, List.getElem_cons_succ, List.getElem_cons_zero, List.setIfInBounds_toArray, List.set_cons_zero, List.set_cons_succ]
                  refine wpAnyH_take (i := 8) (v := ?_) rfl (by kernel_rfl) (by kernel_rfl) (by kernel_rfl) (fun _ _ _ h => h) (Or.inl ⟨by rfl, ?_⟩) hHeld ?_
                  rotate_left
                  · intro w' hSw; try dsimp only at hSw
                    go_simp; try (with_reducible rfl)
                  try simp only [Act.put, List.getElem_toArray, List.getElem_cons_succ, List.getElem_cons_zero, List.setIfInBounds_toArray, List.set_cons_zero, List.set_cons_succ]
                  refine wpAnyH_take (i := 9) (v := ?_) rfl (by kernel_rfl) (by kernel_rfl) (by kernel_rfl) (fun _ _ _ h => h) (Or.inl ⟨by rfl, ?_⟩) hHeld ?_
                  rotate_left
                  · intro w' hSw; try dsimp only at hSw
                    go_simp; try (with_reducible rfl)
                  try simp only [Act.put, List.getElem_toArray, List.getElem_cons_succ, List.getElem_cons_zero, List.setIfInBounds_toArray, List.set_cons_zero, List.set_cons_succ]
                  refine wpAnyH_take (i := 10) (v := ?_) rfl (by kernel_rfl) (by kernel_rfl) (by kernel_rfl) (fun _ _ _ h => h) (Or.inl ⟨by rfl, ?_⟩) hHeld ?_
                  rotate_left
                  · intro w' hSw; try dsimp only at hSw
                    go_simp; try (with_reducible rfl)
                  try simp only [Act.put, List.getElem_toArray, List.getElem_cons_succ, List.getElem_cons_zero, List.setIfInBounds_toArray, List.set_cons_zero, List.set_cons_succ]
                  refine wpAnyH_take (i := 11) (v := ?_) rfl (by kernel_rfl) (by kernel_rfl) (by kernel_rfl) (fun _ _ _ h => h) (Or.inl ⟨by rfl, ?_⟩) hHeld ?_
                  rotate_left
                  · intro w' hSw; try dsimp only at hSw
                    go_simp; try (with_reducible rfl)
                  try simp only [Act.put, List.getElem_toArray, List.getElem_cons_succ, List.getElem_cons_zero, List.setIfInBounds_toArray, List.set_cons_zero, List.set_cons_succ]
                  refine wpAnyH_take (i := 12) (v := ?_) rfl (by kernel_rfl) (by kernel_rfl) (by kernel_rfl) (fun _ _ _ h => h) (Or.inl ⟨by rfl, ?_⟩) hHeld ?_
                  rotate_left
                  · intro w' hSw; try dsimp only at hSw
                    go_simp; try (with_reducible rfl)
                  try simp only [Act.put, List.getElem_toArray, List.getElem_cons_succ, List.getElem_cons_zero, List.setIfInBounds_toArray, List.set_cons_zero, List.set_cons_succ]
                  refine wpAnyH_take (i := 13) (v := ?_) rfl (by kernel_rfl) (by kernel_rfl) (by kernel_rfl) (fun _ _ _ h => h) (Or.inl ⟨by rfl, ?_⟩) hHeld ?_
                  rotate_left
                  · intro w' hSw; try dsimp only at hSw
                    go_simp; try (with_reducible rfl)
                  try simp only [Act.put, List.getElem_toArray, List.getElem_cons_succ, List.getElem_cons_zero, List.setIfInBounds_toArray, List.set_cons_zero, List.set_cons_succ]
                  refine wpAnyH_take (i := 14) (v := ?_) rfl (by kernel_rfl) (by kernel_rfl) (by kernel_rfl) (fun _ _ _ h => h) (Or.inl ⟨by rfl, ?_⟩) hHeld ?_
                  rotate_left
                  · intro w' hSw; try dsimp only at hSw
                    obtain ⟨b1, b2⟩ := hSw
                    have z0 := b1.cell' (i := 0) rfl
                    have z1 := b1.cell' (i := 1) rfl
                    have z2 := b1.cell' (i := 2) rfl
                    have z3 := b1.cell' (i := 3) rfl
                    have z4 := b1.cell' (i := 4) rfl
                    have z5 := b1.cell' (i := 5) rfl
                    obtain ⟨u0, u1, u2, u3, u4, u5⟩ := hel2 _ b2
                    go_simp; try (with_reducible rfl)
                  try simp only [Act.put, List.getElem_toArray, List.getElem_cons_succ, List.getElem_cons_zero, List.setIfInBounds_toArray, List.set_cons_zero, List.set_cons_succ]
                  refine wpAnyH_take (i := 15) (v := ?_) rfl (by kernel_rfl) (by kernel_rfl) (by kernel_rfl) (fun _ _ _ h => h) (Or.inl ⟨by rfl, ?_⟩) hHeld ?_
                  rotate_left
                  · intro w' hSw; try dsimp only at hSw
                    go_simp; try (with_reducible rfl)
                  try simp only [Act.put, List.getElem_toArray, List.getElem_cons_succ, List.getElem_cons_zero, List.setIfInBounds_toArray, List.set_cons_zero, List.set_cons_succ]
                  refine wpAnyH_take (i := 16) (v := ?_) rfl (by kernel_rfl) (by kernel_rfl) (by kernel_rfl) (fun _ _ _ h => h) (Or.inl ⟨by rfl, ?_⟩) hHeld ?_
                  rotate_left
                  · intro w' hSw; try dsimp only at hSw
                    go_simp; try (with_reducible rfl)
                  try simp only [Act.put, List.getElem_toArray, List.getElem_cons_succ, List.getElem_cons_zero, List.setIfInBounds_toArray, List.set_cons_zero, List.set_cons_succ]
                  refine wpAnyH_take (i := 17) (v := ?_) rfl (by kernel_rfl) (by kernel_rfl) (by kernel_rfl) (fun _ _ _ h => h) (Or.inl ⟨by rfl, ?_⟩) hHeld ?_
                  rotate_left
                  · intro w' hSw; try dsimp only at hSw
                    go_simp; try (with_reducible rfl)
                  try simp only [Act.put, List.getElem_toArray, List.getElem_cons_succ, List.getElem_cons_zero, List.setIfInBounds_toArray, List.set_cons_zero, List.set_cons_succ]
                  refine wpAnyH_take (i := 18) (v := ?_) rfl (by kernel_rfl) (by kernel_rfl) (by kernel_rfl) (fun _ _ _ h => h) (Or.inl ⟨by rfl, ?_⟩) hHeld ?_
                  rotate_left
                  · intro w' hSw; try dsimp only at hSw
                    obtain ⟨b1, b2⟩ := hSw
                    have z0 := b1.cell' (i := 0) rfl
                    have z1 := b1.cell' (i := 1) rfl
                    have z2 := b1.cell' (i := 2) rfl
                    have z3 := b1.cell' (i := 3) rfl
                    have z4 := b1.cell' (i := 4) rfl
                    have z5 := b1.cell' (i := 5) rfl
                    obtain ⟨u0, u1, u2, u3, u4, u5⟩ := hel2 _ b2
                    go_simp; try (with_reducible rfl)
                  try simp only [Act.put, List.getElem_toArray, List.getElem_cons_succ, List.getElem_cons_zero, List.setIfInBounds_toArray, List.set_cons_zero, List.set_cons_succ]
                  refine wpAnyH_ready (rs := [19]) (by kernel_rfl) (by simp) ?_
                  refine AllReadyH.cons rfl (fun K hK => ?_) AllReadyH.nil
                  go_simp
                  refine (less_any ⟨xh, xg, xk, xp, xs', xt⟩ ⟨yh, yg, yk, yp, ys', yt⟩ _).mono ?_
                  rintro e W3 ⟨rfl, hbn⟩
                  try go_wp2_with fail
                  refine hK.out _ _ ⟨hHeld.1.kept hbn, bt hHeld.2 hbn⟩ (fun hHeld => ?_)
                  clear hK K
                  try simp only [Act.put, List.getElem_toArray, List.getElem_cons_succ, List.getElem_cons_zero, List.setIfInBounds_toArray, List.set_cons_zero, List.set_cons_succ]
                  clear hbn
                  refine wpAnyH_take (i := 20) (v := ?_) rfl (by kernel_rfl) (by kernel_rfl) (by kernel_rfl) (fun _ _ _ h => h) (Or.inl ⟨by rfl, ?_⟩) hHeld ?_
                  rotate_left
                  · intro w' hSw; try dsimp only at hSw
                    go_simp; try (with_reducible rfl)
                  try simp only [Act.put, List.getElem_toArray, List.getElem_cons_succ, List.getElem_cons_zero, List.setIfInBounds_toArray, List.set_cons_zero, List.set_cons_succ]
                  refine wpAnyH_take (i := 21) (v := ?_) rfl (by kernel_rfl) (by kernel_rfl) (by kernel_rfl) (fun _ _ _ h => h) (Or.inl ⟨by rfl, ?_⟩) hHeld ?_
                  rotate_left
                  · intro w' hSw; try dsimp only at hSw
                    go_simp; try (with_reducible rfl)
                  try simp only [Act.put, List.getElem_toArray, List.getElem_cons_succ, List.getElem_cons_zero, List.setIfInBounds_toArray, List.set_cons_zero, List.set_cons_succ]
                  refine wpAnyH_done (by kernel_rfl) ?_ _
                  refine NoPanic.normal ?_
                  have hbR := bt hb2 hHeld.2
                  have hoR := owns_below hown3.out hHeld.2
                  go_wp2_with fail
                  go_roundw
                  case rel => exact ⟨k + 1, by omega, by go_num, by rw [HB.out], hoR, hbR⟩
                  case measure => simp [intOf]; omega
            · have hpe : (xp == (j : Int)) = false := by rw [beq_eq_false_iff_ne]; exact hxp
              have HB : Hid (bestI P j xs (k + 1) = A) := by show _ = _; rw [HB0.out]; simp [hitB, hpe]
              clear HB0 hat hcl hxp
              go_upto_region 13 with (fail)
              refine wp_region_noPanic ?_
              refine wp_region_held_drew (S := fun X => Blk X wr.heap.size 33 [.int .i64 xh, .int .i64 xg, .int .i64 xk, .int .i64 xp, .int .i64 xs', .int .i64 xt] ∧ Below wr.heap.size wr X) (by kernel_rfl) ⟨bb.drew, bw.drew⟩ (fun hHeld => ?_)
              refine wpAnyH_take (i := 0) (v := ?_) rfl (by kernel_rfl) (by kernel_rfl) (by kernel_rfl) (fun _ _ _ h => h) (Or.inl ⟨by rfl, ?_⟩) hHeld ?_
              rotate_left
              · intro w' hSw; try dsimp only at hSw
                go_simp; try (with_reducible rfl)
              try simp only [Act.put, List.getElem_toArray, List.getElem_cons_succ, List.getElem_cons_zero, List.setIfInBounds_toArray, List.set_cons_zero, List.set_cons_succ]
              refine wpAnyH_take (i := 1) (v := ?_) rfl (by kernel_rfl) (by kernel_rfl) (by kernel_rfl) (fun _ _ _ h => h) (Or.inl ⟨by rfl, ?_⟩) hHeld ?_
              rotate_left
              · intro w' hSw; try dsimp only at hSw
                obtain ⟨b1, b2⟩ := hSw
                have z0 := b1.cell' (i := 0) rfl
                have z1 := b1.cell' (i := 1) rfl
                have z2 := b1.cell' (i := 2) rfl
                have z3 := b1.cell' (i := 3) rfl
                have z4 := b1.cell' (i := 4) rfl
                have z5 := b1.cell' (i := 5) rfl
                go_simp; try (with_reducible rfl)
              try simp only [Act.put, List.getElem_toArray, List.getElem_cons_succ, List.getElem_cons_zero, List.setIfInBounds_toArray, List.set_cons_zero, List.set_cons_succ]
              refine wpAnyH_ready (rs := [2]) (by kernel_rfl) (by simp) ?_
              refine AllReadyH.cons rfl (fun K hK => ?_) AllReadyH.nil
              go_simp
              refine (counts_any P ⟨xh, xg, xk, xp, xs', xt⟩ _).mono ?_
              rintro e W2 ⟨rfl, hbn⟩
              try go_wp2_with fail
              refine hK.out _ _ ⟨hHeld.1.kept hbn, bt hHeld.2 hbn⟩ (fun hHeld => ?_)
              clear hK K
              try simp only [Act.put, List.getElem_toArray, List.getElem_cons_succ, List.getElem_cons_zero, List.setIfInBounds_toArray, List.set_cons_zero, List.set_cons_succ]
              clear hbn
              refine wpAnyH_take (i := 3) (v := ?_) rfl (by kernel_rfl) (by kernel_rfl) (by kernel_rfl) (fun _ _ _ h => h) (Or.inl ⟨by rfl, ?_⟩) hHeld ?_
              rotate_left
              · intro w' hSw; try dsimp only at hSw
                go_simp; try (with_reducible rfl)
              try simp only [Act.put, List.getElem_toArray, List.getElem_cons_succ, List.getElem_cons_zero, List.setIfInBounds_toArray, List.set_cons_zero, List.set_cons_succ]
              refine wpAnyH_take (i := 4) (v := ?_) rfl (by kernel_rfl) (by kernel_rfl) (by kernel_rfl) (fun _ _ _ h => h) (Or.inl ⟨by rfl, ?_⟩) hHeld ?_
              rotate_left
              · intro w' hSw; try dsimp only at hSw
                go_simp; try (with_reducible rfl)
              try simp only [Act.put, List.getElem_toArray, List.getElem_cons_succ, List.getElem_cons_zero, List.setIfInBounds_toArray, List.set_cons_zero, List.set_cons_succ]
              refine wpAnyH_take (i := 5) (v := ?_) rfl (by kernel_rfl) (by kernel_rfl) (by kernel_rfl) (fun _ _ _ h => h) (Or.inl ⟨by rfl, ?_⟩) hHeld ?_
              rotate_left
              · intro w' hSw; try dsimp only at hSw
                go_simp; try (with_reducible rfl)
              try simp only [Act.put, List.getElem_toArray, List.getElem_cons_succ, List.getElem_cons_zero, List.setIfInBounds_toArray, List.set_cons_zero, List.set_cons_succ]
              refine wpAnyH_take (i := 6) (v := ?_) rfl (by kernel_rfl) (by kernel_rfl) (by kernel_rfl) (fun _ _ _ h => h) (Or.inl ⟨by rfl, ?_⟩) hHeld ?_
              rotate_left
              · intro w' hSw; try dsimp only at hSw
                obtain ⟨b1, b2⟩ := hSw
                have z0 := b1.cell' (i := 0) rfl
                have z1 := b1.cell' (i := 1) rfl
                have z2 := b1.cell' (i := 2) rfl
                have z3 := b1.cell' (i := 3) rfl
                have z4 := b1.cell' (i := 4) rfl
                have z5 := b1.cell' (i := 5) rfl
                go_simp; try (with_reducible rfl)
              try simp only [Act.put, List.getElem_toArray, List.getElem_cons_succ, List.getElem_cons_zero, List.setIfInBounds_toArray, List.set_cons_zero, List.set_cons_succ]
              refine wpAnyH_take (i := 7) (v := ?_) rfl (by kernel_rfl) (by kernel_rfl) (by kernel_rfl) (fun _ _ _ h => h) (Or.inl ⟨by rfl, ?_⟩) hHeld ?_
              rotate_left
              · intro w' hSw; try dsimp only at hSw
                go_simp; try (with_reducible rfl)
              try simp only [Act.put, List.getElem_toArray, List.getElem_cons_succ, List.getElem_cons_zero, List.setIfInBounds_toArray, List.set_cons_zero, List.set_cons_succ]
              refine wpAnyH_take (i := 8) (v := ?_) rfl (by kernel_rfl) (by kernel_rfl) (by kernel_rfl) (fun _ _ _ h => h) (Or.inl ⟨by rfl, ?_⟩) hHeld ?_
              rotate_left
              · intro w' hSw; try dsimp only at hSw
                go_simp; try (with_reducible rfl)
              try simp only [Act.put, List.getElem_toArray, List.getElem_cons_succ, List.getElem_cons_zero, List.setIfInBounds_toArray, List.set_cons_zero, List.set_cons_succ]
              refine wpAnyH_take (i := 9) (v := ?_) rfl (by kernel_rfl) (by kernel_rfl) (by kernel_rfl) (fun _ _ _ h => h) (Or.inl ⟨by rfl, ?_⟩) hHeld ?_
              rotate_left
              · intro w' hSw; try dsimp only at hSw
                go_simp; try (with_reducible rfl)
              try simp only [Act.put, List.getElem_toArray, List.getElem_cons_succ, List.getElem_cons_zero, List.setIfInBounds_toArray, List.set_cons_zero, List.set_cons_succ]
              refine wpAnyH_take (i := 10) (v := ?_) rfl (by kernel_rfl) (by kernel_rfl) (by kernel_rfl) (fun _ _ _ h => h) (Or.inl ⟨by rfl, ?_⟩) hHeld ?_
              rotate_left
              · intro w' hSw; try dsimp only at hSw
                go_simp; try (with_reducible rfl)
              try simp only [Act.put, List.getElem_toArray, List.getElem_cons_succ, List.getElem_cons_zero, List.setIfInBounds_toArray, List.set_cons_zero, List.set_cons_succ]
              refine wpAnyH_take (i := 11) (v := undef) rfl (by kernel_rfl) (by kernel_rfl) (by kernel_rfl) (fun _ _ _ h => h) (Or.inr ⟨by rfl, rfl⟩) hHeld ?_
              try simp only [Act.put, List.getElem_toArray, List.getElem_cons_succ, List.getElem_cons_zero, List.setIfInBounds_toArray, List.set_cons_zero, List.set_cons_succ]
              refine wpAnyH_take (i := 12) (v := undef) rfl (by kernel_rfl) (by kernel_rfl) (by kernel_rfl) (fun _ _ _ h => h) (Or.inr ⟨by rfl, rfl⟩) hHeld ?_
              try simp only [Act.put, List.getElem_toArray, List.getElem_cons_succ, List.getElem_cons_zero, List.setIfInBounds_toArray, List.set_cons_zero, List.set_cons_succ]
              refine wpAnyH_take (i := 13) (v := undef) rfl (by kernel_rfl) (by kernel_rfl) (by kernel_rfl) (fun _ _ _ h => h) (Or.inr ⟨by rfl, rfl⟩) hHeld ?_
              try simp only [Act.put, List.getElem_toArray, List.getElem_cons_succ, List.getElem_cons_zero, List.setIfInBounds_toArray, List.set_cons_zero, List.set_cons_succ]
              refine wpAnyH_take (i := 14) (v := undef) rfl (by kernel_rfl) (by kernel_rfl) (by kernel_rfl) (fun _ _ _ h => h) (Or.inr ⟨by rfl, rfl⟩) hHeld ?_
              try simp only [Act.put, List.getElem_toArray, List.getElem_cons_succ, List.getElem_cons_zero, List.setIfInBounds_toArray, List.set_cons_zero, List.set_cons_succ]
              refine wpAnyH_take (i := 15) (v := undef) rfl (by kernel_rfl) (by kernel_rfl) (by kernel_rfl) (fun _ _ _ h => h) (Or.inr ⟨by rfl, rfl⟩) hHeld ?_
              try simp only [Act.put, List.getElem_toArray, List.getElem_cons_succ, List.getElem_cons_zero, List.setIfInBounds_toArray, List.set_cons_zero, List.set_cons_succ]
              refine wpAnyH_take (i := 16) (v := undef) rfl (by kernel_rfl) (by kernel_rfl) (by kernel_rfl) (fun _ _ _ h => h) (Or.inr ⟨by rfl, rfl⟩) hHeld ?_
              try simp only [Act.put, List.getElem_toArray, List.getElem_cons_succ, List.getElem_cons_zero, List.setIfInBounds_toArray, List.set_cons_zero, List.set_cons_succ]
              refine wpAnyH_take (i := 17) (v := undef) rfl (by kernel_rfl) (by kernel_rfl) (by kernel_rfl) (fun _ _ _ h => h) (Or.inr ⟨by rfl, rfl⟩) hHeld ?_
              try simp only [Act.put, List.getElem_toArray, List.getElem_cons_succ, List.getElem_cons_zero, List.setIfInBounds_toArray, List.set_cons_zero, List.set_cons_succ]
              refine wpAnyH_take (i := 18) (v := undef) rfl (by kernel_rfl) (by kernel_rfl) (by kernel_rfl) (fun _ _ _ h => h) (Or.inr ⟨by rfl, rfl⟩) hHeld ?_
              try simp only [Act.put, List.getElem_toArray, List.getElem_cons_succ, List.getElem_cons_zero, List.setIfInBounds_toArray, List.set_cons_zero, List.set_cons_succ]
              refine wpAnyH_take (i := 19) (v := undef) rfl (by kernel_rfl) (by kernel_rfl) (by kernel_rfl) (fun _ _ _ h => h) (Or.inr ⟨by rfl, rfl⟩) hHeld ?_
              try simp only [Act.put, List.getElem_toArray, List.getElem_cons_succ, List.getElem_cons_zero, List.setIfInBounds_toArray, List.set_cons_zero, List.set_cons_succ]
              refine wpAnyH_take (i := 20) (v := undef) rfl (by kernel_rfl) (by kernel_rfl) (by kernel_rfl) (fun _ _ _ h => h) (Or.inr ⟨by rfl, rfl⟩) hHeld ?_
              try simp only [Act.put, List.getElem_toArray, List.getElem_cons_succ, List.getElem_cons_zero, List.setIfInBounds_toArray, List.set_cons_zero, List.set_cons_succ]
              refine wpAnyH_take (i := 21) (v := ?_) rfl (by kernel_rfl) (by kernel_rfl) (by kernel_rfl) (fun _ _ _ h => h) (Or.inl ⟨by rfl, ?_⟩) hHeld ?_
              rotate_left
              · intro w' hSw; try dsimp only at hSw
                go_simp; try (with_reducible rfl)
              try simp only [Act.put, List.getElem_toArray, List.getElem_cons_succ, List.getElem_cons_zero, List.setIfInBounds_toArray, List.set_cons_zero, List.set_cons_succ]
              refine wpAnyH_done (by kernel_rfl) ?_ _
              refine NoPanic.normal ?_
              have hbR := bt hb2 hHeld.2
              have hoR := owns_below hown3.out hHeld.2
              go_wp2_with fail
              go_roundw
              case rel => exact ⟨k + 1, by omega, by go_num, by rw [HB.out], hoR, hbR⟩
              case measure => simp [intOf]; omega
        · obtain rfl : k = n := by omega
          have hxl := HL.out
          rcases bestI_spec P j xs k with ⟨hA, _⟩ | ⟨a, ha, hA, _⟩
          · have HZ : Hid (refPl P j xs = ⟨-1, 0⟩) := by show _ = _; unfold refPl; rw [hxl, hA]; rfl
            rw [hA]
            clear hA hxl
            have ba := below_alloc wr (.cells #[.int .i64 (-1), .int .i64 0] 29)
            have bl := Blk.new' wr 29 #[.int .i64 (-1), .int .i64 0]
            have HO : Hid ((wr.alloc (.cells #[.int .i64 (-1), .int .i64 0] 29)).ownsRow w.heap.size 29 2 (.slice q j cq) j (flatZ (T.take j))) := owns_below hown3.out ba
            go_wp2_with (at_builtin; refine wpList_append_own _ rfl (.tmp 64) (.tmp 66) 37 rfl w.heap.size 29 i0 (.agg #[.int .i64 0, .int .i64 0]) 2 16 Try.underlying37 hi hz0 hz1 hz2 rfl (by decide) (.slice q j cq) j (flatZ (T.take j)) rfl HO.out ⟨wr.heap.size, 0, none⟩ 1 1 [.int .i64 (-1), .int .i64 0] rfl rfl (fun i u hu => by rw [addr_add, Nat.zero_add]; exact bl.cell' hu) (by simp [Value.oneCell']) (by unfold maxLen; omega) (by omega) (by rw [World.size_alloc]; have := hb2.size; omega) ?_; intro v1 w5 hown5 hgrow5 _; obtain ⟨q', cq', hv⟩ := owns_slice hown5; subst hv)
            rw [takeZ_eq (z := ⟨(-1), 0⟩) (by rw [HT.out]; exact hlt) (HZ.out.symm.trans (HE.out j hlt))] at hown5
            have hb5 : Below w.heap.size w w5 := (bt hb2 ba).grown hgrow5 (by rw [World.size_alloc]; have := hb2.size; omega) (fun k' hk' => (HO.out.lt k' hk').1)
            go_roundw
            case rel => exact ⟨j + 1, q', cq', by omega, by go_num, rfl, hown5, hb5⟩
            case measure => simp [intOf]; omega
          · have HZ : Hid (refPl P j xs = ⟨(eF xs a).ph, (eF xs a).pg⟩) := by show _ = _; unfold refPl; rw [hxl, hA, if_neg (by omega), Int.toNat_natCast]
            rw [hA]
            have hai : (a : Int) < (k : Int) := by omega
            have han0 : ¬ (a : Int) < 0 := by omega
            obtain ⟨b, o, rfl, hbl, hc⟩ := (hx.below hb2).at' (by omega)
            obtain ⟨e0, e1, -, -, -, -⟩ := hc a ha
            clear hA hxl hc
            generalize eF xs a = y at *
            obtain ⟨yh, yg, yk, yp, ys', yt⟩ := y
            dsimp only at e0 e1 HZ
            have ba := below_alloc wr (.cells #[.int .i64 yh, .int .i64 yg] 29)
            have bl := Blk.new' wr 29 #[.int .i64 yh, .int .i64 yg]
            have HO : Hid ((wr.alloc (.cells #[.int .i64 yh, .int .i64 yg] 29)).ownsRow w.heap.size 29 2 (.slice q j cq) j (flatZ (T.take j))) := owns_below hown3.out ba
            go_wp2_with (at_builtin; refine wpList_append_own _ rfl (.tmp 68) (.tmp 74) 37 rfl w.heap.size 29 i0 (.agg #[.int .i64 0, .int .i64 0]) 2 16 Try.underlying37 hi hz0 hz1 hz2 rfl (by decide) (.slice q j cq) j (flatZ (T.take j)) rfl HO.out ⟨wr.heap.size, 0, none⟩ 1 1 [.int .i64 yh, .int .i64 yg] rfl rfl (fun i u hu => by rw [addr_add, Nat.zero_add]; exact bl.cell' hu) (by simp [Value.oneCell']) (by unfold maxLen; omega) (by omega) (by rw [World.size_alloc]; have := hb2.size; omega) ?_; intro v1 w5 hown5 hgrow5 _; obtain ⟨q', cq', hv⟩ := owns_slice hown5; subst hv)
            rw [takeZ_eq (z := ⟨yh, yg⟩) (by rw [HT.out]; exact hlt) (HZ.out.symm.trans (HE.out j hlt))] at hown5
            have hb5 : Below w.heap.size w w5 := (bt hb2 ba).grown hgrow5 (by rw [World.size_alloc]; have := hb2.size; omega) (fun k' hk' => (HO.out.lt k' hk').1)
            go_roundw
            case rel => exact ⟨j + 1, q', cq', by omega, by go_num, rfl, hown5, hb5⟩
            case measure => simp [intOf]; omega
    · obtain rfl : j = M := by omega
      rw [List.take_of_length_le (by rw [HT.out]; exact Nat.le_refl _)] at hown
      go_wp2
      go_ret
      exact ⟨q, cq, rfl, hown, hbj⟩
end Go.Proofs.Ytfgelncfmopibaa
