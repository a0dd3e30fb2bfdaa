/-
  P9.5: the law, walked.
-/
import Derived.Test.YtbnnekpglnnneaaDkPreP
namespace Go.Proofs.Ytbnnekpglnnneaa
open Go.RowKit
theorem opsPre (p : Option Addr) (n c k : Nat) (h : k ≤ n) (hc : n ≤ c) (W : World) : (Instr.slice 22 (.slice p n c) none (some (.int .i64 (k : Int))) none).run Try.prog W = .ok (.slice p k c) W := by
  simp [Instr.slice, Instr.sliceBounds, Instr.sliceBound, run_underlying Try.underlying22, asIntOf]
  rw [if_pos (by omega)]
  have : (Option.map (fun x : Addr => x.add 0) p) = p := by
    cases p with
    | none => rfl
    | some a => obtain ⟨b, o, s⟩ := a; cases s <;> simp [Addr.add]
  rw [this, ite_self]
theorem opsPre' (p : Option Addr) (n c k : Nat) (h : k ≤ n) (hc : n ≤ c) (W : World) : (Instr.sliceAt 22 (.slice p n c) none (some (.int .i64 (k : Int))) none).run Try.prog W = .ok (.slice p k c) W := by
  rw [← opsPre p n c k h hc W]
  simp [Instr.sliceAt, run_underlying Try.underlying22]
theorem minRun (M n : Nat) : ∃ k : Nat, k ≤ n ∧ k ≤ M ∧ ∀ (ts : Array TypeId) (t : TypeId) (W : World), (Builtin.min_ ts t #[.int .i64 (n : Int), .int .i64 (M : Int)]).run Try.prog W = .ok (.int .i64 (k : Int)) W := by
  by_cases h : (M : Int) < (n : Int)
  · exact ⟨M, by omega, Nat.le_refl _, fun ts t W => by rw [run_min_int2]; simp only [if_pos h]⟩
  · exact ⟨n, Nat.le_refl _, by omega, fun ts t W => by rw [run_min_int2]; simp only [if_neg h]⟩
set_option linter.unusedSimpArgs false in
set_option maxRecDepth 100000 in
set_option maxHeartbeats 4000000 in
theorem prefix_walk (sn cut : Nat) (hsn : sn < 256) (hcut : cut < 256) (p : Option Addr) (n c : Nat) (os : List OpA) (w : World) (ho : OpsSrc w p n c os) :
    Calls Try.prog 4 #[.int .u8 (sn : Int), .slice p n c, .int .u8 (cut : Int)] w fun e w' => e = .returned (.bool true) ∧ Below w.heap.size w w' := by
  obtain ⟨N, hN⟩ : ∃ N, sn % 32 = N := ⟨_, rfl⟩
  have hNb : N < 32 := by omega
  have hm1 : (sn : Int) % 32 = (N : Int) := by omega
  have hm2 : (sn : Int).tmod 32 = (N : Int) := by rw [Int.tmod_eq_emod_of_nonneg (by omega)]; exact hm1
  have hNi : (N : Int) < 32 := by omega
  have hci : (cut : Int) < 256 := by omega
  have hsi : (sn : Int) < 256 := by omega
  have hN1 : ((N + 1 : Nat) : Int) = (N : Int) + 1 := by omega
  have hnew := fun W => new_ok (N + 1) (by omega) (by omega) W
  have hrnew := fun W => rnew_ok (N + 1) (by omega) (by omega) W
  rw [hN1] at hnew hrnew
  clear hN hN1
  obtain ⟨K, hKn, hK2, hmin0⟩ := minRun 200 n
  have hmin : ∀ (ts : Array TypeId) (t : TypeId) (W : World), (Builtin.min_ ts t #[.int .i64 (n : Int), .int .i64 200]).run Try.prog W = .ok (.int .i64 (K : Int)) W := hmin0
  have hsl := opsPre p n c K hKn ho.cap
  have hsl' := opsPre' p n c K hKn ho.cap
  clear hmin0
  go_enter Try.func4, Try.ntmps4
  go_wp2_with (first
    | (go_at_call 7; refine (live_any _).mono ?_; rintro e w1 ⟨rfl, hb1⟩)
    | (go_at_call 8; refine (hnew _).mono ?_; rintro e w2 ⟨hb2, d, sb, rfl, hd2, hs2, D2⟩)
    | (go_at_call 9; refine (hrnew _).mono ?_; rintro e w3 ⟨hb3, r, V, rfl, hF3, R3⟩)
    | (go_at_call 19; refine (cut_any (D2.below hb3) (cut : Int) (by omega)).mono ?_; rintro e w4 ⟨⟨u4, rfl⟩, A4⟩))
  have hF2 : ∀ k, fpD d sb (.slice none 0 0) k → w.heap.size ≤ k := by
    rintro k (rfl | rfl | hk)
    · exact Nat.le_trans hb1.size hd2
    · exact Nat.le_trans hb1.size hs2
    · simp [Value.ownBlock] at hk
  have hbB := bt (bt hb1 hb2) hb3
  have R4 := R3.keepD (D2.below hb3) A4.keep
  have P4 := PRel.start (N + 1) cut
  have hB4 : Below w.heap.size w w4 := hbB.trans (A4.belowB hbB.size hF2)
  have hF4 : ∀ k, fpR r V k → w.heap.size ≤ k := fun k hk => Nat.le_trans (bt hb1 hb2).size (hF3 k hk)
  have G4 := A4.fp hbB.size hF2
  have D4 := A4.disk
  clear hnew hrnew hb1 hb2 hb3 D2 R3 A4 hF2 hF3 hd2 hs2 hbB hmin hsl hsl'
  have hKi : (K : Int) ≤ 200 := by omega
  go_loopw [11, 56] (fun dv iv wr => ∃ (dn k : Nat) (lv : Value) (V' : RV) (s : DS) (t : RS), k ≤ K ∧ dn ≤ k ∧ dv = .int .i64 (dn : Int) ∧ iv = .int .i64 (k : Int) ∧ DiskIn wr d sb lv s ∧ RefIn wr r V' t ∧ PRel s t (N + 1) dn cut ∧ (∀ j, fpD d sb lv j → w.heap.size ≤ j) ∧ (∀ j, fpR r V' j → w.heap.size ≤ j) ∧ Below w.heap.size w wr) (fun _ i _ => K - (intOf i).toNat)
  case atStart => exact ⟨0, 0, _, V, _, _, Nat.zero_le _, Nat.le_refl _, rfl, rfl, D4, R4, P4, G4, hF4, hB4⟩
  case round =>
    obtain ⟨dn, k, lv, V', s, t, hk, hdk, rfl, rfl, hD, hR, hP, hFD, hFR, hB⟩ := hrel
    clear D4 R4 P4 G4 hF4 hB4
    by_cases hlt : k < K
    · have hki : (k : Int) < (K : Int) := by omega
      have hk2 : (k : Int) ≤ 200 := by omega
      have ho' := ho.below hB
      obtain ⟨ob, oo, rfl, hobl, hcs⟩ := ho'.at' (by omega)
      obtain ⟨x, hx⟩ : ∃ x, os[k]? = some x := ⟨_, List.getElem?_eq_getElem (by have := ho.len; omega)⟩
      obtain ⟨c0, c1, c2, c3⟩ := hcs k x hx
      have hin := ho'.bytes k x hx
      clear hcs
      obtain ⟨xd, xs, xq, xm, xc, xsh, xB⟩ := x
      dsimp only at c0 c1 c2 c3 hin
      by_cases hm : xm = 0
      · subst hm
        go_wp2_with fail
        have g5 := (Blk.new' wr 33 #[.int .i64 xd, .int .i64 xs, .slice (some ⟨wr.heap.size + 1, 0, none⟩) 1 1, .bool false]).alloc (.cells #[.int .u8 1] 5)
        have hin5 := in_lit (wr.alloc (.cells #[.int .i64 xd, .int .i64 xs, .slice (some ⟨wr.heap.size + 1, 0, none⟩) 1 1, .bool false] 33)) (cs := #[.int .u8 1]) (xs := [1]) (n := 1) (by rfl) rfl (by simp) (by omega)
        rw [World.size_alloc] at hin5
        have b5 := bt (below_alloc wr (.cells #[.int .i64 xd, .int .i64 xs, .slice (some ⟨wr.heap.size + 1, 0, none⟩) 1 1, .bool false] 33)) (below_alloc (wr.alloc (.cells #[.int .i64 xd, .int .i64 xs, .slice (some ⟨wr.heap.size + 1, 0, none⟩) 1 1, .bool false] 33)) (.cells #[.int .u8 1] 5))
        have hqD : ∀ a, some (⟨wr.heap.size + 1, 0, none⟩ : Addr) = some a → ¬ fpD d sb lv a.block := fun a ha hf => by cases ha; have := hD.lt hf; dsimp only at this; omega
        have hqR : ∀ a, some (⟨wr.heap.size + 1, 0, none⟩ : Addr) = some a → ¬ fpR r V' a.block := fun a ha hf => by cases ha; have := hR.lt hf; dsimp only at this; omega
        have HZ : Hid (fullL [1] false = cyc [1] 256) := by show _ = _; simp [fullL]
        generalize (wr.alloc (.cells #[.int .i64 xd, .int .i64 xs, .slice (some ⟨wr.heap.size + 1, 0, none⟩) 1 1, .bool false] 33)).alloc (.cells #[.int .u8 1] 5) = w5 at *
        generalize ([1] : List Nat) = B' at *
        generalize some (⟨wr.heap.size + 1, 0, none⟩ : Addr) = q at *
        clear c0 c1 c2 c3 hin
        refine wp_region_noPanic ?_
        refine wp_region_held_drew (S := fun X => Blk X wr.heap.size 33 [.int .i64 xd, .int .i64 xs, .slice q 1 1, .bool false]) (by kernel_rfl) g5.drew (fun hHeld => ?_)
        refine wpAnyH_take (i := 0) (v := ?_) rfl (by kernel_rfl) (by kernel_rfl) (by kernel_rfl) (fun _ _ _ h => h) (Or.inl ⟨by rfl, ?_⟩) hHeld ?_
        rotate_left
        · intro w' hSw; try dsimp only at hSw
          go_simp; try (with_reducible rfl)
        try simp only [Act.put, List.getElem_toArray, List.getElem_cons_succ, List.getElem_cons_zero, List.setIfInBounds_toArray, List.set_cons_zero, List.set_cons_succ]
        refine wpAnyH_take (i := 1) (v := ?_) rfl (by kernel_rfl) (by kernel_rfl) (by kernel_rfl) (fun _ _ _ h => h) (Or.inl ⟨by rfl, ?_⟩) hHeld ?_
        rotate_left
        · intro w' hSw; try dsimp only at hSw
          go_simp; try (with_reducible rfl)
        try simp only [Act.put, List.getElem_toArray, List.getElem_cons_succ, List.getElem_cons_zero, List.setIfInBounds_toArray, List.set_cons_zero, List.set_cons_succ]
        refine wpAnyH_take (i := 2) (v := ?_) rfl (by kernel_rfl) (by kernel_rfl) (by kernel_rfl) (fun _ _ _ h => h) (Or.inl ⟨by rfl, ?_⟩) hHeld ?_
        rotate_left
        · intro w' hSw; try dsimp only at hSw
          have l0 := hSw.cell' (i := 0) (v := .int .i64 xd) rfl
          have l1 := hSw.cell' (i := 1) (v := .int .i64 xs) rfl
          have l2 := hSw.cell' (i := 2) (v := .slice q 1 1) rfl
          have l3 := hSw.cell' (i := 3) (v := .bool false) rfl
          go_simp; try (with_reducible rfl)
        try simp only [Act.put, List.getElem_toArray, List.getElem_cons_succ, List.getElem_cons_zero, List.setIfInBounds_toArray, List.set_cons_zero, List.set_cons_succ]
        refine wpAnyH_take (i := 3) (v := ?_) rfl (by kernel_rfl) (by kernel_rfl) (by kernel_rfl) (fun _ _ _ h => h) (Or.inl ⟨by rfl, ?_⟩) hHeld ?_
        rotate_left
        · intro w' hSw; try dsimp only at hSw
          have l0 := hSw.cell' (i := 0) (v := .int .i64 xd) rfl
          have l1 := hSw.cell' (i := 1) (v := .int .i64 xs) rfl
          have l2 := hSw.cell' (i := 2) (v := .slice q 1 1) rfl
          have l3 := hSw.cell' (i := 3) (v := .bool false) rfl
          go_simp; try (with_reducible rfl)
        try simp only [Act.put, List.getElem_toArray, List.getElem_cons_succ, List.getElem_cons_zero, List.setIfInBounds_toArray, List.set_cons_zero, List.set_cons_succ]
        refine wpAnyH_ready (rs := [4]) (by kernel_rfl) (by simp) ?_
        refine AllReadyH.cons rfl (fun K hK => ?_) AllReadyH.nil
        go_simp
        refine (full_any xd xs q 1 1 false B' _ (hin5.below ((Below.refl _ _).drew))).mono ?_
        rintro e w6 ⟨p6, n6, c6, rfl, hin6, hb6, hq6⟩
        try go_wp2_with fail
        refine hK.out _ _ (g5.drew.kept hb6) (fun hHeld => ?_)
        clear hK K
        try simp only [Act.put, List.getElem_toArray, List.getElem_cons_succ, List.getElem_cons_zero, List.setIfInBounds_toArray, List.set_cons_zero, List.set_cons_succ]
        have hn6 : n6 = 256 := by have := hin6.len; rw [HZ.out] at this; rw [cyc_length] at this; omega
        subst hn6
        rw [HZ.out] at hin6
        have b6 : Below wr.heap.size wr w6 := bt (bt b5 ((Below.refl _ w5).drew)) hb6
        have D6 := hD.below b6
        have g6 := g5.drew.kept hb6
        refine wpAnyH_ready (rs := [5]) (by kernel_rfl) (by simp) ?_
        refine AllReadyH.cons rfl (fun K hK => ?_) AllReadyH.nil
        go_simp
        refine (write_any D6 xs p6 256 c6 (cyc B' 256) hin6 (by have := hP.w; omega)).mono ?_
        rintro e w7 ⟨rfl, lv7, A7⟩
        try go_wp2_with fail
        refine hK.out _ _ (g6.keep A7.keep (fun e => by have := hD.lt e; omega)) (fun hHeld => ?_)
        clear hK K
        try simp only [Act.put, List.getElem_toArray, List.getElem_cons_succ, List.getElem_cons_zero, List.setIfInBounds_toArray, List.set_cons_zero, List.set_cons_succ]
        refine wpAnyH_take (i := 6) (v := ?_) rfl (by kernel_rfl) (by kernel_rfl) (by kernel_rfl) (fun _ _ _ h => h) (Or.inl ⟨by rfl, ?_⟩) hHeld ?_
        rotate_left
        · intro w' hSw; try dsimp only at hSw
          go_simp; try (with_reducible rfl)
        try simp only [Act.put, List.getElem_toArray, List.getElem_cons_succ, List.getElem_cons_zero, List.setIfInBounds_toArray, List.set_cons_zero, List.set_cons_succ]
        refine wpAnyH_done (by kernel_rfl) ?_ _
        refine NoPanic.normal ?_
        have R7 := (hR.below b6).keepD D6 A7.keep
        have g7 := hHeld
        have hBw6 : Below w.heap.size w w6 := bt hB b6
        have hB7 : Below w.heap.size w w7 := hBw6.trans (A7.belowB hBw6.size hFD)
        have G7 := A7.fp hBw6.size hFD
        have hin7 : In w7 q 1 1 B' := hin5.keep ((Keep.of_below (S := fpD d sb lv) (bt ((Below.refl _ w5).drew) hb6)).trans A7.keep (fun _ _ e => e)) hqD
        have D7 := A7.disk
        have hZ : (cyc B' 256).length = 256 := cyc_length _ _
        clear D6 g6 hb6 hin6 hHeld g5 hin5
        go_wp2_with fail
        by_cases hneg : xs < 0
        · have hno : hasB (N + 1) xs = false := by simp [hasB]; omega
          have hng : ¬ 0 ≤ xs := by omega
          cases hon : s.on
          · have hdc : ¬ (dn : Int) < (cut : Int) := by have := hP.off hon; omega
            have hM := PRel.no_off (i := xs) hon (cyc B' 256)
            rw [hM.1]
            rw [hM.2] at D7
            refine wp_region_noPanic ?_
            refine wp_region_held_drew (S := fun X => Blk X wr.heap.size 33 [.int .i64 xd, .int .i64 xs, .slice q 1 1, .bool false]) (by kernel_rfl) g7.drew (fun hHeld => ?_)
            refine wpAnyH_take (i := 0) (v := ?_) rfl (by kernel_rfl) (by kernel_rfl) (by kernel_rfl) (fun _ _ _ h => h) (Or.inl ⟨by rfl, ?_⟩) hHeld ?_
            rotate_left
            · intro w' hSw; try dsimp only at hSw
              have l0 := hSw.cell' (i := 0) (v := .int .i64 xd) rfl
              have l1 := hSw.cell' (i := 1) (v := .int .i64 xs) rfl
              have l2 := hSw.cell' (i := 2) (v := .slice q 1 1) rfl
              have l3 := hSw.cell' (i := 3) (v := .bool false) rfl
              go_simp; try (with_reducible rfl)
            try simp only [Act.put, List.getElem_toArray, List.getElem_cons_succ, List.getElem_cons_zero, List.setIfInBounds_toArray, List.set_cons_zero, List.set_cons_succ]
            refine wpAnyH_take (i := 1) (v := ?_) rfl (by kernel_rfl) (by kernel_rfl) (by kernel_rfl) (fun _ _ _ h => h) (Or.inl ⟨by rfl, ?_⟩) hHeld ?_
            rotate_left
            · intro w' hSw; try dsimp only at hSw
              have l0 := hSw.cell' (i := 0) (v := .int .i64 xd) rfl
              have l1 := hSw.cell' (i := 1) (v := .int .i64 xs) rfl
              have l2 := hSw.cell' (i := 2) (v := .slice q 1 1) rfl
              have l3 := hSw.cell' (i := 3) (v := .bool false) rfl
              go_simp; try (with_reducible rfl)
            try simp only [Act.put, List.getElem_toArray, List.getElem_cons_succ, List.getElem_cons_zero, List.setIfInBounds_toArray, List.set_cons_zero, List.set_cons_succ]
            refine wpAnyH_take (i := 2) (v := ?_) rfl (by kernel_rfl) (by kernel_rfl) (by kernel_rfl) (fun _ _ _ h => h) (Or.inl ⟨by rfl, ?_⟩) hHeld ?_
            rotate_left
            · intro w' hSw; try dsimp only at hSw
              have l0 := hSw.cell' (i := 0) (v := .int .i64 xd) rfl
              have l1 := hSw.cell' (i := 1) (v := .int .i64 xs) rfl
              have l2 := hSw.cell' (i := 2) (v := .slice q 1 1) rfl
              have l3 := hSw.cell' (i := 3) (v := .bool false) rfl
              go_simp; try (with_reducible rfl)
            try simp only [Act.put, List.getElem_toArray, List.getElem_cons_succ, List.getElem_cons_zero, List.setIfInBounds_toArray, List.set_cons_zero, List.set_cons_succ]
            refine wpAnyH_take (i := 3) (v := ?_) rfl (by kernel_rfl) (by kernel_rfl) (by kernel_rfl) (fun _ _ _ h => h) (Or.inl ⟨by rfl, ?_⟩) hHeld ?_
            rotate_left
            · intro w' hSw; try dsimp only at hSw
              have l0 := hSw.cell' (i := 0) (v := .int .i64 xd) rfl
              have l1 := hSw.cell' (i := 1) (v := .int .i64 xs) rfl
              have l2 := hSw.cell' (i := 2) (v := .slice q 1 1) rfl
              have l3 := hSw.cell' (i := 3) (v := .bool false) rfl
              go_simp; try (with_reducible rfl)
            try simp only [Act.put, List.getElem_toArray, List.getElem_cons_succ, List.getElem_cons_zero, List.setIfInBounds_toArray, List.set_cons_zero, List.set_cons_succ]
            refine wpAnyH_take (i := 4) (v := undef) rfl (by kernel_rfl) (by kernel_rfl) (by kernel_rfl) (fun _ _ _ h => h) (Or.inr ⟨by rfl, rfl⟩) hHeld ?_
            try simp only [Act.put, List.getElem_toArray, List.getElem_cons_succ, List.getElem_cons_zero, List.setIfInBounds_toArray, List.set_cons_zero, List.set_cons_succ]
            refine wpAnyH_take (i := 5) (v := undef) rfl (by kernel_rfl) (by kernel_rfl) (by kernel_rfl) (fun _ _ _ h => h) (Or.inr ⟨by rfl, rfl⟩) hHeld ?_
            try simp only [Act.put, List.getElem_toArray, List.getElem_cons_succ, List.getElem_cons_zero, List.setIfInBounds_toArray, List.set_cons_zero, List.set_cons_succ]
            refine wpAnyH_take (i := 6) (v := undef) rfl (by kernel_rfl) (by kernel_rfl) (by kernel_rfl) (fun _ _ _ h => h) (Or.inr ⟨by rfl, rfl⟩) hHeld ?_
            try simp only [Act.put, List.getElem_toArray, List.getElem_cons_succ, List.getElem_cons_zero, List.setIfInBounds_toArray, List.set_cons_zero, List.set_cons_succ]
            refine wpAnyH_take (i := 7) (v := undef) rfl (by kernel_rfl) (by kernel_rfl) (by kernel_rfl) (fun _ _ _ h => h) (Or.inr ⟨by rfl, rfl⟩) hHeld ?_
            try simp only [Act.put, List.getElem_toArray, List.getElem_cons_succ, List.getElem_cons_zero, List.setIfInBounds_toArray, List.set_cons_zero, List.set_cons_succ]
            refine wpAnyH_take (i := 8) (v := undef) rfl (by kernel_rfl) (by kernel_rfl) (by kernel_rfl) (fun _ _ _ h => h) (Or.inr ⟨by rfl, rfl⟩) hHeld ?_
            try simp only [Act.put, List.getElem_toArray, List.getElem_cons_succ, List.getElem_cons_zero, List.setIfInBounds_toArray, List.set_cons_zero, List.set_cons_succ]
            refine wpAnyH_take (i := 9) (v := ?_) rfl (by kernel_rfl) (by kernel_rfl) (by kernel_rfl) (fun _ _ _ h => h) (Or.inl ⟨by rfl, ?_⟩) hHeld ?_
            rotate_left
            · intro w' hSw; try dsimp only at hSw
              go_simp; try (with_reducible rfl)
            try simp only [Act.put, List.getElem_toArray, List.getElem_cons_succ, List.getElem_cons_zero, List.setIfInBounds_toArray, List.set_cons_zero, List.set_cons_succ]
            refine wpAnyH_take (i := 10) (v := ?_) rfl (by kernel_rfl) (by kernel_rfl) (by kernel_rfl) (fun _ _ _ h => h) (Or.inl ⟨by rfl, ?_⟩) hHeld ?_
            rotate_left
            · intro w' hSw; try dsimp only at hSw
              go_simp; try (with_reducible rfl)
            try simp only [Act.put, List.getElem_toArray, List.getElem_cons_succ, List.getElem_cons_zero, List.setIfInBounds_toArray, List.set_cons_zero, List.set_cons_succ]
            refine wpAnyH_done (by kernel_rfl) ?_ _
            refine NoPanic.normal ?_
            have hOn := on_any (D7.below ((Below.refl _ _).drew))
            rw [hon] at hOn
            go_wp2_with (go_at_call 11; refine hOn.mono ?_; rintro e w' ⟨rfl, hw'⟩; have hw2 := hw'.symm; subst hw2; clear hw')
            go_roundw
            case rel => exact ⟨dn, k + 1, lv7, V', _, _, by omega, by omega, rfl, by go_num, (D7.below ((Below.refl _ _).drew)), (R7.below ((Below.refl _ _).drew)), hP, G7, hFR, hB7.drew⟩
            case measure => simp [intOf]; omega
          · by_cases hd : dn < cut
            · have hM := hP.no_on hno hon (cyc B' 256)
              rw [hM.1]
              rw [hM.2] at D7
              have hdc : (dn : Int) < (cut : Int) := by omega
              refine wp_region_noPanic ?_
              refine wp_region_held_drew (S := fun X => Blk X wr.heap.size 33 [.int .i64 xd, .int .i64 xs, .slice q 1 1, .bool false]) (by kernel_rfl) g7.drew (fun hHeld => ?_)
              refine wpAnyH_take (i := 0) (v := ?_) rfl (by kernel_rfl) (by kernel_rfl) (by kernel_rfl) (fun _ _ _ h => h) (Or.inl ⟨by rfl, ?_⟩) hHeld ?_
              rotate_left
              · intro w' hSw; try dsimp only at hSw
                have l0 := hSw.cell' (i := 0) (v := .int .i64 xd) rfl
                have l1 := hSw.cell' (i := 1) (v := .int .i64 xs) rfl
                have l2 := hSw.cell' (i := 2) (v := .slice q 1 1) rfl
                have l3 := hSw.cell' (i := 3) (v := .bool false) rfl
                go_simp; try (with_reducible rfl)
              try simp only [Act.put, List.getElem_toArray, List.getElem_cons_succ, List.getElem_cons_zero, List.setIfInBounds_toArray, List.set_cons_zero, List.set_cons_succ]
              refine wpAnyH_take (i := 1) (v := ?_) rfl (by kernel_rfl) (by kernel_rfl) (by kernel_rfl) (fun _ _ _ h => h) (Or.inl ⟨by rfl, ?_⟩) hHeld ?_
              rotate_left
              · intro w' hSw; try dsimp only at hSw
                have l0 := hSw.cell' (i := 0) (v := .int .i64 xd) rfl
                have l1 := hSw.cell' (i := 1) (v := .int .i64 xs) rfl
                have l2 := hSw.cell' (i := 2) (v := .slice q 1 1) rfl
                have l3 := hSw.cell' (i := 3) (v := .bool false) rfl
                go_simp; try (with_reducible rfl)
              try simp only [Act.put, List.getElem_toArray, List.getElem_cons_succ, List.getElem_cons_zero, List.setIfInBounds_toArray, List.set_cons_zero, List.set_cons_succ]
              refine wpAnyH_take (i := 2) (v := ?_) rfl (by kernel_rfl) (by kernel_rfl) (by kernel_rfl) (fun _ _ _ h => h) (Or.inl ⟨by rfl, ?_⟩) hHeld ?_
              rotate_left
              · intro w' hSw; try dsimp only at hSw
                have l0 := hSw.cell' (i := 0) (v := .int .i64 xd) rfl
                have l1 := hSw.cell' (i := 1) (v := .int .i64 xs) rfl
                have l2 := hSw.cell' (i := 2) (v := .slice q 1 1) rfl
                have l3 := hSw.cell' (i := 3) (v := .bool false) rfl
                go_simp; try (with_reducible rfl)
              try simp only [Act.put, List.getElem_toArray, List.getElem_cons_succ, List.getElem_cons_zero, List.setIfInBounds_toArray, List.set_cons_zero, List.set_cons_succ]
              refine wpAnyH_take (i := 3) (v := ?_) rfl (by kernel_rfl) (by kernel_rfl) (by kernel_rfl) (fun _ _ _ h => h) (Or.inl ⟨by rfl, ?_⟩) hHeld ?_
              rotate_left
              · intro w' hSw; try dsimp only at hSw
                have l0 := hSw.cell' (i := 0) (v := .int .i64 xd) rfl
                have l1 := hSw.cell' (i := 1) (v := .int .i64 xs) rfl
                have l2 := hSw.cell' (i := 2) (v := .slice q 1 1) rfl
                have l3 := hSw.cell' (i := 3) (v := .bool false) rfl
                go_simp; try (with_reducible rfl)
              try simp only [Act.put, List.getElem_toArray, List.getElem_cons_succ, List.getElem_cons_zero, List.setIfInBounds_toArray, List.set_cons_zero, List.set_cons_succ]
              refine wpAnyH_take (i := 4) (v := undef) rfl (by kernel_rfl) (by kernel_rfl) (by kernel_rfl) (fun _ _ _ h => h) (Or.inr ⟨by rfl, rfl⟩) hHeld ?_
              try simp only [Act.put, List.getElem_toArray, List.getElem_cons_succ, List.getElem_cons_zero, List.setIfInBounds_toArray, List.set_cons_zero, List.set_cons_succ]
              refine wpAnyH_take (i := 5) (v := undef) rfl (by kernel_rfl) (by kernel_rfl) (by kernel_rfl) (fun _ _ _ h => h) (Or.inr ⟨by rfl, rfl⟩) hHeld ?_
              try simp only [Act.put, List.getElem_toArray, List.getElem_cons_succ, List.getElem_cons_zero, List.setIfInBounds_toArray, List.set_cons_zero, List.set_cons_succ]
              refine wpAnyH_take (i := 6) (v := undef) rfl (by kernel_rfl) (by kernel_rfl) (by kernel_rfl) (fun _ _ _ h => h) (Or.inr ⟨by rfl, rfl⟩) hHeld ?_
              try simp only [Act.put, List.getElem_toArray, List.getElem_cons_succ, List.getElem_cons_zero, List.setIfInBounds_toArray, List.set_cons_zero, List.set_cons_succ]
              refine wpAnyH_take (i := 7) (v := undef) rfl (by kernel_rfl) (by kernel_rfl) (by kernel_rfl) (fun _ _ _ h => h) (Or.inr ⟨by rfl, rfl⟩) hHeld ?_
              try simp only [Act.put, List.getElem_toArray, List.getElem_cons_succ, List.getElem_cons_zero, List.setIfInBounds_toArray, List.set_cons_zero, List.set_cons_succ]
              refine wpAnyH_take (i := 8) (v := undef) rfl (by kernel_rfl) (by kernel_rfl) (by kernel_rfl) (fun _ _ _ h => h) (Or.inr ⟨by rfl, rfl⟩) hHeld ?_
              try simp only [Act.put, List.getElem_toArray, List.getElem_cons_succ, List.getElem_cons_zero, List.setIfInBounds_toArray, List.set_cons_zero, List.set_cons_succ]
              refine wpAnyH_take (i := 9) (v := ?_) rfl (by kernel_rfl) (by kernel_rfl) (by kernel_rfl) (fun _ _ _ h => h) (Or.inl ⟨by rfl, ?_⟩) hHeld ?_
              rotate_left
              · intro w' hSw; try dsimp only at hSw
                go_simp; try (with_reducible rfl)
              try simp only [Act.put, List.getElem_toArray, List.getElem_cons_succ, List.getElem_cons_zero, List.setIfInBounds_toArray, List.set_cons_zero, List.set_cons_succ]
              refine wpAnyH_take (i := 10) (v := ?_) rfl (by kernel_rfl) (by kernel_rfl) (by kernel_rfl) (fun _ _ _ h => h) (Or.inl ⟨by rfl, ?_⟩) hHeld ?_
              rotate_left
              · intro w' hSw; try dsimp only at hSw
                go_simp; try (with_reducible rfl)
              try simp only [Act.put, List.getElem_toArray, List.getElem_cons_succ, List.getElem_cons_zero, List.setIfInBounds_toArray, List.set_cons_zero, List.set_cons_succ]
              refine wpAnyH_done (by kernel_rfl) ?_ _
              refine NoPanic.normal ?_
              go_wp2_with fail
              go_roundw
              case rel => exact ⟨dn, k + 1, lv7, V', _, _, by omega, by omega, rfl, by go_num, (D7.below ((Below.refl _ _).drew)), (R7.below ((Below.refl _ _).drew)), hP, G7, hFR, hB7.drew⟩
              case measure => simp [intOf]; omega
            · have hM := hP.no_on hno hon (cyc B' 256)
              rw [hM.1]
              rw [hM.2] at D7
              have hdc : ¬ (dn : Int) < (cut : Int) := by omega
              refine wp_region_noPanic ?_
              refine wp_region_held_drew (S := fun X => Blk X wr.heap.size 33 [.int .i64 xd, .int .i64 xs, .slice q 1 1, .bool false]) (by kernel_rfl) g7.drew (fun hHeld => ?_)
              refine wpAnyH_take (i := 0) (v := ?_) rfl (by kernel_rfl) (by kernel_rfl) (by kernel_rfl) (fun _ _ _ h => h) (Or.inl ⟨by rfl, ?_⟩) hHeld ?_
              rotate_left
              · intro w' hSw; try dsimp only at hSw
                have l0 := hSw.cell' (i := 0) (v := .int .i64 xd) rfl
                have l1 := hSw.cell' (i := 1) (v := .int .i64 xs) rfl
                have l2 := hSw.cell' (i := 2) (v := .slice q 1 1) rfl
                have l3 := hSw.cell' (i := 3) (v := .bool false) rfl
                go_simp; try (with_reducible rfl)
              try simp only [Act.put, List.getElem_toArray, List.getElem_cons_succ, List.getElem_cons_zero, List.setIfInBounds_toArray, List.set_cons_zero, List.set_cons_succ]
              refine wpAnyH_take (i := 1) (v := ?_) rfl (by kernel_rfl) (by kernel_rfl) (by kernel_rfl) (fun _ _ _ h => h) (Or.inl ⟨by rfl, ?_⟩) hHeld ?_
              rotate_left
              · intro w' hSw; try dsimp only at hSw
                have l0 := hSw.cell' (i := 0) (v := .int .i64 xd) rfl
                have l1 := hSw.cell' (i := 1) (v := .int .i64 xs) rfl
                have l2 := hSw.cell' (i := 2) (v := .slice q 1 1) rfl
                have l3 := hSw.cell' (i := 3) (v := .bool false) rfl
                go_simp; try (with_reducible rfl)
              try simp only [Act.put, List.getElem_toArray, List.getElem_cons_succ, List.getElem_cons_zero, List.setIfInBounds_toArray, List.set_cons_zero, List.set_cons_succ]
              refine wpAnyH_take (i := 2) (v := ?_) rfl (by kernel_rfl) (by kernel_rfl) (by kernel_rfl) (fun _ _ _ h => h) (Or.inl ⟨by rfl, ?_⟩) hHeld ?_
              rotate_left
              · intro w' hSw; try dsimp only at hSw
                have l0 := hSw.cell' (i := 0) (v := .int .i64 xd) rfl
                have l1 := hSw.cell' (i := 1) (v := .int .i64 xs) rfl
                have l2 := hSw.cell' (i := 2) (v := .slice q 1 1) rfl
                have l3 := hSw.cell' (i := 3) (v := .bool false) rfl
                go_simp; try (with_reducible rfl)
              try simp only [Act.put, List.getElem_toArray, List.getElem_cons_succ, List.getElem_cons_zero, List.setIfInBounds_toArray, List.set_cons_zero, List.set_cons_succ]
              refine wpAnyH_take (i := 3) (v := ?_) rfl (by kernel_rfl) (by kernel_rfl) (by kernel_rfl) (fun _ _ _ h => h) (Or.inl ⟨by rfl, ?_⟩) hHeld ?_
              rotate_left
              · intro w' hSw; try dsimp only at hSw
                have l0 := hSw.cell' (i := 0) (v := .int .i64 xd) rfl
                have l1 := hSw.cell' (i := 1) (v := .int .i64 xs) rfl
                have l2 := hSw.cell' (i := 2) (v := .slice q 1 1) rfl
                have l3 := hSw.cell' (i := 3) (v := .bool false) rfl
                go_simp; try (with_reducible rfl)
              try simp only [Act.put, List.getElem_toArray, List.getElem_cons_succ, List.getElem_cons_zero, List.setIfInBounds_toArray, List.set_cons_zero, List.set_cons_succ]
              refine wpAnyH_take (i := 4) (v := undef) rfl (by kernel_rfl) (by kernel_rfl) (by kernel_rfl) (fun _ _ _ h => h) (Or.inr ⟨by rfl, rfl⟩) hHeld ?_
              try simp only [Act.put, List.getElem_toArray, List.getElem_cons_succ, List.getElem_cons_zero, List.setIfInBounds_toArray, List.set_cons_zero, List.set_cons_succ]
              refine wpAnyH_take (i := 5) (v := undef) rfl (by kernel_rfl) (by kernel_rfl) (by kernel_rfl) (fun _ _ _ h => h) (Or.inr ⟨by rfl, rfl⟩) hHeld ?_
              try simp only [Act.put, List.getElem_toArray, List.getElem_cons_succ, List.getElem_cons_zero, List.setIfInBounds_toArray, List.set_cons_zero, List.set_cons_succ]
              refine wpAnyH_take (i := 6) (v := undef) rfl (by kernel_rfl) (by kernel_rfl) (by kernel_rfl) (fun _ _ _ h => h) (Or.inr ⟨by rfl, rfl⟩) hHeld ?_
              try simp only [Act.put, List.getElem_toArray, List.getElem_cons_succ, List.getElem_cons_zero, List.setIfInBounds_toArray, List.set_cons_zero, List.set_cons_succ]
              refine wpAnyH_take (i := 7) (v := undef) rfl (by kernel_rfl) (by kernel_rfl) (by kernel_rfl) (fun _ _ _ h => h) (Or.inr ⟨by rfl, rfl⟩) hHeld ?_
              try simp only [Act.put, List.getElem_toArray, List.getElem_cons_succ, List.getElem_cons_zero, List.setIfInBounds_toArray, List.set_cons_zero, List.set_cons_succ]
              refine wpAnyH_take (i := 8) (v := undef) rfl (by kernel_rfl) (by kernel_rfl) (by kernel_rfl) (fun _ _ _ h => h) (Or.inr ⟨by rfl, rfl⟩) hHeld ?_
              try simp only [Act.put, List.getElem_toArray, List.getElem_cons_succ, List.getElem_cons_zero, List.setIfInBounds_toArray, List.set_cons_zero, List.set_cons_succ]
              refine wpAnyH_take (i := 9) (v := ?_) rfl (by kernel_rfl) (by kernel_rfl) (by kernel_rfl) (fun _ _ _ h => h) (Or.inl ⟨by rfl, ?_⟩) hHeld ?_
              rotate_left
              · intro w' hSw; try dsimp only at hSw
                go_simp; try (with_reducible rfl)
              try simp only [Act.put, List.getElem_toArray, List.getElem_cons_succ, List.getElem_cons_zero, List.setIfInBounds_toArray, List.set_cons_zero, List.set_cons_succ]
              refine wpAnyH_take (i := 10) (v := ?_) rfl (by kernel_rfl) (by kernel_rfl) (by kernel_rfl) (fun _ _ _ h => h) (Or.inl ⟨by rfl, ?_⟩) hHeld ?_
              rotate_left
              · intro w' hSw; try dsimp only at hSw
                go_simp; try (with_reducible rfl)
              try simp only [Act.put, List.getElem_toArray, List.getElem_cons_succ, List.getElem_cons_zero, List.setIfInBounds_toArray, List.set_cons_zero, List.set_cons_succ]
              refine wpAnyH_done (by kernel_rfl) ?_ _
              refine NoPanic.normal ?_
              have hOn := on_any (D7.below ((Below.refl _ _).drew))
              rw [hon] at hOn
              go_wp2_with (go_at_call 11; refine hOn.mono ?_; rintro e w' ⟨rfl, hw'⟩; have hw2 := hw'.symm; subst hw2; clear hw')
              go_roundw
              case rel => exact ⟨dn, k + 1, lv7, V', _, _, by omega, by omega, rfl, by go_num, (D7.below ((Below.refl _ _).drew)), (R7.below ((Below.refl _ _).drew)), hP, G7, hFR, hB7.drew⟩
              case measure => simp [intOf]; omega
        · by_cases hin' : xs < ((N + 1 : Nat) : Int)
          · obtain ⟨kk, rfl⟩ : ∃ kk : Nat, xs = (kk : Int) := ⟨xs.toNat, by omega⟩
            have hkk : kk < N + 1 := by omega
            have hge : (0 : Int) ≤ (kk : Int) := by omega
            have hlt' : (kk : Int) < (N : Int) + 1 := by omega
            have hltb : decide ((kk : Int) < (N : Int) + 1) = true := by simp; omega
            by_cases hd : dn < cut
            · have hdc : (dn : Int) < (cut : Int) := by omega
              have hM := hP.more hkk hd hZ
              rw [hM.2.1]
              refine wp_region_noPanic ?_
              refine wp_region_held_drew (S := fun X => Blk X wr.heap.size 33 [.int .i64 xd, .int .i64 (kk : Int), .slice q 1 1, .bool false]) (by kernel_rfl) g7.drew (fun hHeld => ?_)
              refine wpAnyH_take (i := 0) (v := ?_) rfl (by kernel_rfl) (by kernel_rfl) (by kernel_rfl) (fun _ _ _ h => h) (Or.inl ⟨by rfl, ?_⟩) hHeld ?_
              rotate_left
              · intro w' hSw; try dsimp only at hSw
                have l0 := hSw.cell' (i := 0) (v := .int .i64 xd) rfl
                have l1 := hSw.cell' (i := 1) (v := .int .i64 (kk : Int)) rfl
                have l2 := hSw.cell' (i := 2) (v := .slice q 1 1) rfl
                have l3 := hSw.cell' (i := 3) (v := .bool false) rfl
                go_simp; try (with_reducible rfl)
              try simp only [Act.put, List.getElem_toArray, List.getElem_cons_succ, List.getElem_cons_zero, List.setIfInBounds_toArray, List.set_cons_zero, List.set_cons_succ]
              refine wpAnyH_take (i := 1) (v := ?_) rfl (by kernel_rfl) (by kernel_rfl) (by kernel_rfl) (fun _ _ _ h => h) (Or.inl ⟨by rfl, ?_⟩) hHeld ?_
              rotate_left
              · intro w' hSw; try dsimp only at hSw
                have l0 := hSw.cell' (i := 0) (v := .int .i64 xd) rfl
                have l1 := hSw.cell' (i := 1) (v := .int .i64 (kk : Int)) rfl
                have l2 := hSw.cell' (i := 2) (v := .slice q 1 1) rfl
                have l3 := hSw.cell' (i := 3) (v := .bool false) rfl
                go_simp; try (with_reducible rfl)
              try simp only [Act.put, List.getElem_toArray, List.getElem_cons_succ, List.getElem_cons_zero, List.setIfInBounds_toArray, List.set_cons_zero, List.set_cons_succ]
              refine wpAnyH_take (i := 2) (v := ?_) rfl (by kernel_rfl) (by kernel_rfl) (by kernel_rfl) (fun _ _ _ h => h) (Or.inl ⟨by rfl, ?_⟩) hHeld ?_
              rotate_left
              · intro w' hSw; try dsimp only at hSw
                have l0 := hSw.cell' (i := 0) (v := .int .i64 xd) rfl
                have l1 := hSw.cell' (i := 1) (v := .int .i64 (kk : Int)) rfl
                have l2 := hSw.cell' (i := 2) (v := .slice q 1 1) rfl
                have l3 := hSw.cell' (i := 3) (v := .bool false) rfl
                go_simp; try (with_reducible rfl)
              try simp only [Act.put, List.getElem_toArray, List.getElem_cons_succ, List.getElem_cons_zero, List.setIfInBounds_toArray, List.set_cons_zero, List.set_cons_succ]
              refine wpAnyH_take (i := 3) (v := ?_) rfl (by kernel_rfl) (by kernel_rfl) (by kernel_rfl) (fun _ _ _ h => h) (Or.inl ⟨by rfl, ?_⟩) hHeld ?_
              rotate_left
              · intro w' hSw; try dsimp only at hSw
                have l0 := hSw.cell' (i := 0) (v := .int .i64 xd) rfl
                have l1 := hSw.cell' (i := 1) (v := .int .i64 (kk : Int)) rfl
                have l2 := hSw.cell' (i := 2) (v := .slice q 1 1) rfl
                have l3 := hSw.cell' (i := 3) (v := .bool false) rfl
                go_simp; try (with_reducible rfl)
              try simp only [Act.put, List.getElem_toArray, List.getElem_cons_succ, List.getElem_cons_zero, List.setIfInBounds_toArray, List.set_cons_zero, List.set_cons_succ]
              refine wpAnyH_take (i := 4) (v := ?_) rfl (by kernel_rfl) (by kernel_rfl) (by kernel_rfl) (fun _ _ _ h => h) (Or.inl ⟨by rfl, ?_⟩) hHeld ?_
              rotate_left
              · intro w' hSw; try dsimp only at hSw
                have l0 := hSw.cell' (i := 0) (v := .int .i64 xd) rfl
                have l1 := hSw.cell' (i := 1) (v := .int .i64 (kk : Int)) rfl
                have l2 := hSw.cell' (i := 2) (v := .slice q 1 1) rfl
                have l3 := hSw.cell' (i := 3) (v := .bool false) rfl
                go_simp; try (with_reducible rfl)
              try simp only [Act.put, List.getElem_toArray, List.getElem_cons_succ, List.getElem_cons_zero, List.setIfInBounds_toArray, List.set_cons_zero, List.set_cons_succ]
              refine wpAnyH_take (i := 5) (v := ?_) rfl (by kernel_rfl) (by kernel_rfl) (by kernel_rfl) (fun _ _ _ h => h) (Or.inl ⟨by rfl, ?_⟩) hHeld ?_
              rotate_left
              · intro w' hSw; try dsimp only at hSw
                have l0 := hSw.cell' (i := 0) (v := .int .i64 xd) rfl
                have l1 := hSw.cell' (i := 1) (v := .int .i64 (kk : Int)) rfl
                have l2 := hSw.cell' (i := 2) (v := .slice q 1 1) rfl
                have l3 := hSw.cell' (i := 3) (v := .bool false) rfl
                go_simp; try (with_reducible rfl)
              try simp only [Act.put, List.getElem_toArray, List.getElem_cons_succ, List.getElem_cons_zero, List.setIfInBounds_toArray, List.set_cons_zero, List.set_cons_succ]
              refine wpAnyH_take (i := 6) (v := ?_) rfl (by kernel_rfl) (by kernel_rfl) (by kernel_rfl) (fun _ _ _ h => h) (Or.inl ⟨by rfl, ?_⟩) hHeld ?_
              rotate_left
              · intro w' hSw; try dsimp only at hSw
                have l0 := hSw.cell' (i := 0) (v := .int .i64 xd) rfl
                have l1 := hSw.cell' (i := 1) (v := .int .i64 (kk : Int)) rfl
                have l2 := hSw.cell' (i := 2) (v := .slice q 1 1) rfl
                have l3 := hSw.cell' (i := 3) (v := .bool false) rfl
                go_simp; try (with_reducible rfl)
              try simp only [Act.put, List.getElem_toArray, List.getElem_cons_succ, List.getElem_cons_zero, List.setIfInBounds_toArray, List.set_cons_zero, List.set_cons_succ]
              refine wpAnyH_ready (rs := [7]) (by kernel_rfl) (by simp) ?_
              refine AllReadyH.cons rfl (fun K hK => ?_) AllReadyH.nil
              go_simp
              refine (rsize_any (R7.below ((Below.refl _ _).drew))).mono ?_
              rw [hP.tlen]
              rintro e w' ⟨rfl, hw'⟩
              have hw2 := hw'.symm
              subst hw2
              clear hw'
              try go_wp2_with fail
              refine hK.out _ _ hHeld (fun hHeld => ?_)
              clear hK K
              try simp only [Act.put, List.getElem_toArray, List.getElem_cons_succ, List.getElem_cons_zero, List.setIfInBounds_toArray, List.set_cons_zero, List.set_cons_succ]
              refine wpAnyH_take (i := 8) (v := ?_) rfl (by kernel_rfl) (by kernel_rfl) (by kernel_rfl) (fun _ _ _ h => h) (Or.inl ⟨by rfl, ?_⟩) hHeld ?_
              rotate_left
              · intro w' hSw; try dsimp only at hSw
                go_simp; try (with_reducible rfl)
              try simp only [Act.put, List.getElem_toArray, List.getElem_cons_succ, List.getElem_cons_zero, List.setIfInBounds_toArray, List.set_cons_zero, List.set_cons_succ]
              refine wpAnyH_take (i := 9) (v := ?_) rfl (by kernel_rfl) (by kernel_rfl) (by kernel_rfl) (fun _ _ _ h => h) (Or.inl ⟨by rfl, ?_⟩) hHeld ?_
              rotate_left
              · intro w' hSw; try dsimp only at hSw
                go_simp; try (with_reducible rfl)
              try simp only [Act.put, List.getElem_toArray, List.getElem_cons_succ, List.getElem_cons_zero, List.setIfInBounds_toArray, List.set_cons_zero, List.set_cons_succ]
              refine wpAnyH_take (i := 10) (v := ?_) rfl (by kernel_rfl) (by kernel_rfl) (by kernel_rfl) (fun _ _ _ h => h) (Or.inl ⟨by rfl, ?_⟩) hHeld ?_
              rotate_left
              · intro w' hSw; try dsimp only at hSw
                go_simp; try (with_reducible rfl)
              try simp only [Act.put, List.getElem_toArray, List.getElem_cons_succ, List.getElem_cons_zero, List.setIfInBounds_toArray, List.set_cons_zero, List.set_cons_succ]
              refine wpAnyH_done (by kernel_rfl) ?_ _
              refine NoPanic.normal ?_
              go_wp2_with fail
              have bq2 : Below w7.heap.size w7 w7.drew.drew := ((Below.refl _ _).drew).drew
              refine wp_region_noPanic ?_
              refine wp_region_held_drew (S := fun X => Blk X wr.heap.size 33 [.int .i64 xd, .int .i64 (kk : Int), .slice q 1 1, .bool false]) (by kernel_rfl) g7.drew.drew (fun hHeld => ?_)
              refine wpAnyH_take (i := 0) (v := ?_) rfl (by kernel_rfl) (by kernel_rfl) (by kernel_rfl) (fun _ _ _ h => h) (Or.inl ⟨by rfl, ?_⟩) hHeld ?_
              rotate_left
              · intro w' hSw; try dsimp only at hSw
                go_simp; try (with_reducible rfl)
              try simp only [Act.put, List.getElem_toArray, List.getElem_cons_succ, List.getElem_cons_zero, List.setIfInBounds_toArray, List.set_cons_zero, List.set_cons_succ]
              refine wpAnyH_take (i := 1) (v := ?_) rfl (by kernel_rfl) (by kernel_rfl) (by kernel_rfl) (fun _ _ _ h => h) (Or.inl ⟨by rfl, ?_⟩) hHeld ?_
              rotate_left
              · intro w' hSw; try dsimp only at hSw
                go_simp; try (with_reducible rfl)
              try simp only [Act.put, List.getElem_toArray, List.getElem_cons_succ, List.getElem_cons_zero, List.setIfInBounds_toArray, List.set_cons_zero, List.set_cons_succ]
              refine wpAnyH_take (i := 2) (v := ?_) rfl (by kernel_rfl) (by kernel_rfl) (by kernel_rfl) (fun _ _ _ h => h) (Or.inl ⟨by rfl, ?_⟩) hHeld ?_
              rotate_left
              · intro w' hSw; try dsimp only at hSw
                go_simp; try (with_reducible rfl)
              try simp only [Act.put, List.getElem_toArray, List.getElem_cons_succ, List.getElem_cons_zero, List.setIfInBounds_toArray, List.set_cons_zero, List.set_cons_succ]
              refine wpAnyH_take (i := 3) (v := ?_) rfl (by kernel_rfl) (by kernel_rfl) (by kernel_rfl) (fun _ _ _ h => h) (Or.inl ⟨by rfl, ?_⟩) hHeld ?_
              rotate_left
              · intro w' hSw; try dsimp only at hSw
                have l0 := hSw.cell' (i := 0) (v := .int .i64 xd) rfl
                have l1 := hSw.cell' (i := 1) (v := .int .i64 (kk : Int)) rfl
                have l2 := hSw.cell' (i := 2) (v := .slice q 1 1) rfl
                have l3 := hSw.cell' (i := 3) (v := .bool false) rfl
                go_simp; try (with_reducible rfl)
              try simp only [Act.put, List.getElem_toArray, List.getElem_cons_succ, List.getElem_cons_zero, List.setIfInBounds_toArray, List.set_cons_zero, List.set_cons_succ]
              refine wpAnyH_take (i := 4) (v := ?_) rfl (by kernel_rfl) (by kernel_rfl) (by kernel_rfl) (fun _ _ _ h => h) (Or.inl ⟨by rfl, ?_⟩) hHeld ?_
              rotate_left
              · intro w' hSw; try dsimp only at hSw
                have l0 := hSw.cell' (i := 0) (v := .int .i64 xd) rfl
                have l1 := hSw.cell' (i := 1) (v := .int .i64 (kk : Int)) rfl
                have l2 := hSw.cell' (i := 2) (v := .slice q 1 1) rfl
                have l3 := hSw.cell' (i := 3) (v := .bool false) rfl
                go_simp; try (with_reducible rfl)
              try simp only [Act.put, List.getElem_toArray, List.getElem_cons_succ, List.getElem_cons_zero, List.setIfInBounds_toArray, List.set_cons_zero, List.set_cons_succ]
              refine wpAnyH_take (i := 5) (v := ?_) rfl (by kernel_rfl) (by kernel_rfl) (by kernel_rfl) (fun _ _ _ h => h) (Or.inl ⟨by rfl, ?_⟩) hHeld ?_
              rotate_left
              · intro w' hSw; try dsimp only at hSw
                have l0 := hSw.cell' (i := 0) (v := .int .i64 xd) rfl
                have l1 := hSw.cell' (i := 1) (v := .int .i64 (kk : Int)) rfl
                have l2 := hSw.cell' (i := 2) (v := .slice q 1 1) rfl
                have l3 := hSw.cell' (i := 3) (v := .bool false) rfl
                go_simp; try (with_reducible rfl)
              try simp only [Act.put, List.getElem_toArray, List.getElem_cons_succ, List.getElem_cons_zero, List.setIfInBounds_toArray, List.set_cons_zero, List.set_cons_succ]
              refine wpAnyH_take (i := 6) (v := ?_) rfl (by kernel_rfl) (by kernel_rfl) (by kernel_rfl) (fun _ _ _ h => h) (Or.inl ⟨by rfl, ?_⟩) hHeld ?_
              rotate_left
              · intro w' hSw; try dsimp only at hSw
                have l0 := hSw.cell' (i := 0) (v := .int .i64 xd) rfl
                have l1 := hSw.cell' (i := 1) (v := .int .i64 (kk : Int)) rfl
                have l2 := hSw.cell' (i := 2) (v := .slice q 1 1) rfl
                have l3 := hSw.cell' (i := 3) (v := .bool false) rfl
                go_simp; try (with_reducible rfl)
              try simp only [Act.put, List.getElem_toArray, List.getElem_cons_succ, List.getElem_cons_zero, List.setIfInBounds_toArray, List.set_cons_zero, List.set_cons_succ]
              refine wpAnyH_ready (rs := [7]) (by kernel_rfl) (by simp) ?_
              refine AllReadyH.cons rfl (fun K hK => ?_) AllReadyH.nil
              go_simp
              refine (full_any xd (kk : Int) q 1 1 false B' _ (hin7.below bq2)).mono ?_
              rintro e w8 ⟨p8, n8, c8, rfl, hin8, hb8, hq8⟩
              try go_wp2_with fail
              refine hK.out _ _ (g7.drew.drew.kept hb8) (fun hHeld => ?_)
              clear hK K
              try simp only [Act.put, List.getElem_toArray, List.getElem_cons_succ, List.getElem_cons_zero, List.setIfInBounds_toArray, List.set_cons_zero, List.set_cons_succ]
              have hn8 : n8 = 256 := by have := hin8.len; rw [HZ.out] at this; rw [cyc_length] at this; omega
              subst hn8
              rw [HZ.out] at hin8
              have b8 : Below w7.heap.size w7 w8 := bq2.trans (hb8.mono (Nat.le_refl _))
              have R8 := R7.below b8
              refine wpAnyH_ready (rs := [8]) (by kernel_rfl) (by simp) ?_
              refine AllReadyH.cons rfl (fun K hK => ?_) AllReadyH.nil
              go_simp
              refine (rwrite_any R8 (kk : Int) p8 256 c8 (cyc B' 256) hin8 (fun a ha => ?hnp) (by have := hP.m; omega) (by have := hP.wl; omega)).mono ?_
              case hnp =>
                rcases hq8 with e | e
                · subst e; exact hqR a ha
                · intro hf; have h1 := e a ha; have h2 := R7.lt hf; have h3 : w7.drew.drew.heap.size = w7.heap.size := rfl; omega
              rintro e w9 ⟨rfl, V9, A9⟩
              rw [hM.2.2.1]
              try go_wp2_with fail
              refine hK.out _ _ ((g7.kept b8).keep A9.keep (fun e => by have h1 := hR.lt e; omega)) (fun hHeld => ?_)
              clear hK K
              try simp only [Act.put, List.getElem_toArray, List.getElem_cons_succ, List.getElem_cons_zero, List.setIfInBounds_toArray, List.set_cons_zero, List.set_cons_succ]
              refine wpAnyH_take (i := 9) (v := ?_) rfl (by kernel_rfl) (by kernel_rfl) (by kernel_rfl) (fun _ _ _ h => h) (Or.inl ⟨by rfl, ?_⟩) hHeld ?_
              rotate_left
              · intro w' hSw; try dsimp only at hSw
                go_simp; try (with_reducible rfl)
              try simp only [Act.put, List.getElem_toArray, List.getElem_cons_succ, List.getElem_cons_zero, List.setIfInBounds_toArray, List.set_cons_zero, List.set_cons_succ]
              refine wpAnyH_take (i := 10) (v := ?_) rfl (by kernel_rfl) (by kernel_rfl) (by kernel_rfl) (fun _ _ _ h => h) (Or.inl ⟨by rfl, ?_⟩) hHeld ?_
              rotate_left
              · intro w' hSw; try dsimp only at hSw
                go_simp; try (with_reducible rfl)
              try simp only [Act.put, List.getElem_toArray, List.getElem_cons_succ, List.getElem_cons_zero, List.setIfInBounds_toArray, List.set_cons_zero, List.set_cons_succ]
              refine wpAnyH_done (by kernel_rfl) ?_ _
              refine NoPanic.normal ?_
              go_wp2_with fail
              have D9 := (D7.below b8).keepR R8 A9.keep
              have hB8 : Below w.heap.size w w8 := bt hB7 b8
              have hf9 : ∀ j, fpR r V9 j → w.heap.size ≤ j := fun j hj => (A9.fr j hj).elim (hFR j) (fun e => Nat.le_trans hB8.size e)
              go_roundw
              case rel => exact ⟨dn + 1, k + 1, lv7, V9, _, _, by omega, by omega, by go_num, by go_num, D9, A9.ref, hM.2.2.2, G7, hf9, (hB8.trans (A9.keep.below hB8.size hFR))⟩
              case measure => simp [intOf]; omega
            · have hdc : ¬ (dn : Int) < (cut : Int) := by omega
              have hM := hP.last hkk hd hZ
              rw [hM.1]
              refine wp_region_noPanic ?_
              refine wp_region_held_drew (S := fun X => Blk X wr.heap.size 33 [.int .i64 xd, .int .i64 (kk : Int), .slice q 1 1, .bool false]) (by kernel_rfl) g7.drew (fun hHeld => ?_)
              refine wpAnyH_take (i := 0) (v := ?_) rfl (by kernel_rfl) (by kernel_rfl) (by kernel_rfl) (fun _ _ _ h => h) (Or.inl ⟨by rfl, ?_⟩) hHeld ?_
              rotate_left
              · intro w' hSw; try dsimp only at hSw
                have l0 := hSw.cell' (i := 0) (v := .int .i64 xd) rfl
                have l1 := hSw.cell' (i := 1) (v := .int .i64 (kk : Int)) rfl
                have l2 := hSw.cell' (i := 2) (v := .slice q 1 1) rfl
                have l3 := hSw.cell' (i := 3) (v := .bool false) rfl
                go_simp; try (with_reducible rfl)
              try simp only [Act.put, List.getElem_toArray, List.getElem_cons_succ, List.getElem_cons_zero, List.setIfInBounds_toArray, List.set_cons_zero, List.set_cons_succ]
              refine wpAnyH_take (i := 1) (v := ?_) rfl (by kernel_rfl) (by kernel_rfl) (by kernel_rfl) (fun _ _ _ h => h) (Or.inl ⟨by rfl, ?_⟩) hHeld ?_
              rotate_left
              · intro w' hSw; try dsimp only at hSw
                have l0 := hSw.cell' (i := 0) (v := .int .i64 xd) rfl
                have l1 := hSw.cell' (i := 1) (v := .int .i64 (kk : Int)) rfl
                have l2 := hSw.cell' (i := 2) (v := .slice q 1 1) rfl
                have l3 := hSw.cell' (i := 3) (v := .bool false) rfl
                go_simp; try (with_reducible rfl)
              try simp only [Act.put, List.getElem_toArray, List.getElem_cons_succ, List.getElem_cons_zero, List.setIfInBounds_toArray, List.set_cons_zero, List.set_cons_succ]
              refine wpAnyH_take (i := 2) (v := ?_) rfl (by kernel_rfl) (by kernel_rfl) (by kernel_rfl) (fun _ _ _ h => h) (Or.inl ⟨by rfl, ?_⟩) hHeld ?_
              rotate_left
              · intro w' hSw; try dsimp only at hSw
                have l0 := hSw.cell' (i := 0) (v := .int .i64 xd) rfl
                have l1 := hSw.cell' (i := 1) (v := .int .i64 (kk : Int)) rfl
                have l2 := hSw.cell' (i := 2) (v := .slice q 1 1) rfl
                have l3 := hSw.cell' (i := 3) (v := .bool false) rfl
                go_simp; try (with_reducible rfl)
              try simp only [Act.put, List.getElem_toArray, List.getElem_cons_succ, List.getElem_cons_zero, List.setIfInBounds_toArray, List.set_cons_zero, List.set_cons_succ]
              refine wpAnyH_take (i := 3) (v := ?_) rfl (by kernel_rfl) (by kernel_rfl) (by kernel_rfl) (fun _ _ _ h => h) (Or.inl ⟨by rfl, ?_⟩) hHeld ?_
              rotate_left
              · intro w' hSw; try dsimp only at hSw
                have l0 := hSw.cell' (i := 0) (v := .int .i64 xd) rfl
                have l1 := hSw.cell' (i := 1) (v := .int .i64 (kk : Int)) rfl
                have l2 := hSw.cell' (i := 2) (v := .slice q 1 1) rfl
                have l3 := hSw.cell' (i := 3) (v := .bool false) rfl
                go_simp; try (with_reducible rfl)
              try simp only [Act.put, List.getElem_toArray, List.getElem_cons_succ, List.getElem_cons_zero, List.setIfInBounds_toArray, List.set_cons_zero, List.set_cons_succ]
              refine wpAnyH_take (i := 4) (v := ?_) rfl (by kernel_rfl) (by kernel_rfl) (by kernel_rfl) (fun _ _ _ h => h) (Or.inl ⟨by rfl, ?_⟩) hHeld ?_
              rotate_left
              · intro w' hSw; try dsimp only at hSw
                have l0 := hSw.cell' (i := 0) (v := .int .i64 xd) rfl
                have l1 := hSw.cell' (i := 1) (v := .int .i64 (kk : Int)) rfl
                have l2 := hSw.cell' (i := 2) (v := .slice q 1 1) rfl
                have l3 := hSw.cell' (i := 3) (v := .bool false) rfl
                go_simp; try (with_reducible rfl)
              try simp only [Act.put, List.getElem_toArray, List.getElem_cons_succ, List.getElem_cons_zero, List.setIfInBounds_toArray, List.set_cons_zero, List.set_cons_succ]
              refine wpAnyH_take (i := 5) (v := ?_) rfl (by kernel_rfl) (by kernel_rfl) (by kernel_rfl) (fun _ _ _ h => h) (Or.inl ⟨by rfl, ?_⟩) hHeld ?_
              rotate_left
              · intro w' hSw; try dsimp only at hSw
                have l0 := hSw.cell' (i := 0) (v := .int .i64 xd) rfl
                have l1 := hSw.cell' (i := 1) (v := .int .i64 (kk : Int)) rfl
                have l2 := hSw.cell' (i := 2) (v := .slice q 1 1) rfl
                have l3 := hSw.cell' (i := 3) (v := .bool false) rfl
                go_simp; try (with_reducible rfl)
              try simp only [Act.put, List.getElem_toArray, List.getElem_cons_succ, List.getElem_cons_zero, List.setIfInBounds_toArray, List.set_cons_zero, List.set_cons_succ]
              refine wpAnyH_take (i := 6) (v := ?_) rfl (by kernel_rfl) (by kernel_rfl) (by kernel_rfl) (fun _ _ _ h => h) (Or.inl ⟨by rfl, ?_⟩) hHeld ?_
              rotate_left
              · intro w' hSw; try dsimp only at hSw
                have l0 := hSw.cell' (i := 0) (v := .int .i64 xd) rfl
                have l1 := hSw.cell' (i := 1) (v := .int .i64 (kk : Int)) rfl
                have l2 := hSw.cell' (i := 2) (v := .slice q 1 1) rfl
                have l3 := hSw.cell' (i := 3) (v := .bool false) rfl
                go_simp; try (with_reducible rfl)
              try simp only [Act.put, List.getElem_toArray, List.getElem_cons_succ, List.getElem_cons_zero, List.setIfInBounds_toArray, List.set_cons_zero, List.set_cons_succ]
              refine wpAnyH_ready (rs := [7]) (by kernel_rfl) (by simp) ?_
              refine AllReadyH.cons rfl (fun K hK => ?_) AllReadyH.nil
              go_simp
              refine (rsize_any (R7.below ((Below.refl _ _).drew))).mono ?_
              rw [hP.tlen]
              rintro e w' ⟨rfl, hw'⟩
              have hw2 := hw'.symm
              subst hw2
              clear hw'
              try go_wp2_with fail
              refine hK.out _ _ hHeld (fun hHeld => ?_)
              clear hK K
              try simp only [Act.put, List.getElem_toArray, List.getElem_cons_succ, List.getElem_cons_zero, List.setIfInBounds_toArray, List.set_cons_zero, List.set_cons_succ]
              refine wpAnyH_take (i := 8) (v := ?_) rfl (by kernel_rfl) (by kernel_rfl) (by kernel_rfl) (fun _ _ _ h => h) (Or.inl ⟨by rfl, ?_⟩) hHeld ?_
              rotate_left
              · intro w' hSw; try dsimp only at hSw
                go_simp; try (with_reducible rfl)
              try simp only [Act.put, List.getElem_toArray, List.getElem_cons_succ, List.getElem_cons_zero, List.setIfInBounds_toArray, List.set_cons_zero, List.set_cons_succ]
              refine wpAnyH_take (i := 9) (v := ?_) rfl (by kernel_rfl) (by kernel_rfl) (by kernel_rfl) (fun _ _ _ h => h) (Or.inl ⟨by rfl, ?_⟩) hHeld ?_
              rotate_left
              · intro w' hSw; try dsimp only at hSw
                go_simp; try (with_reducible rfl)
              try simp only [Act.put, List.getElem_toArray, List.getElem_cons_succ, List.getElem_cons_zero, List.setIfInBounds_toArray, List.set_cons_zero, List.set_cons_succ]
              refine wpAnyH_take (i := 10) (v := ?_) rfl (by kernel_rfl) (by kernel_rfl) (by kernel_rfl) (fun _ _ _ h => h) (Or.inl ⟨by rfl, ?_⟩) hHeld ?_
              rotate_left
              · intro w' hSw; try dsimp only at hSw
                go_simp; try (with_reducible rfl)
              try simp only [Act.put, List.getElem_toArray, List.getElem_cons_succ, List.getElem_cons_zero, List.setIfInBounds_toArray, List.set_cons_zero, List.set_cons_succ]
              refine wpAnyH_done (by kernel_rfl) ?_ _
              refine NoPanic.normal ?_
              go_wp2_with fail
              go_roundw
              case rel => exact ⟨dn, k + 1, lv7, V', _, _, by omega, by omega, rfl, by go_num, (D7.below ((Below.refl _ _).drew)), (R7.below ((Below.refl _ _).drew)), hM.2, G7, hFR, hB7.drew⟩
              case measure => simp [intOf]; omega
          · have hno : hasB (N + 1) xs = false := by simp [hasB]; omega
            have hge : 0 ≤ xs := by omega
            have hnlb : decide (xs < (N : Int) + 1) = false := by simp; omega
            have hnl : ¬ xs < (N : Int) + 1 := by omega
            cases hon : s.on
            · have hdc : ¬ (dn : Int) < (cut : Int) := by have := hP.off hon; omega
              have hM := PRel.no_off (i := xs) hon (cyc B' 256)
              rw [hM.1]
              rw [hM.2] at D7
              refine wp_region_noPanic ?_
              refine wp_region_held_drew (S := fun X => Blk X wr.heap.size 33 [.int .i64 xd, .int .i64 xs, .slice q 1 1, .bool false]) (by kernel_rfl) g7.drew (fun hHeld => ?_)
              refine wpAnyH_take (i := 0) (v := ?_) rfl (by kernel_rfl) (by kernel_rfl) (by kernel_rfl) (fun _ _ _ h => h) (Or.inl ⟨by rfl, ?_⟩) hHeld ?_
              rotate_left
              · intro w' hSw; try dsimp only at hSw
                have l0 := hSw.cell' (i := 0) (v := .int .i64 xd) rfl
                have l1 := hSw.cell' (i := 1) (v := .int .i64 xs) rfl
                have l2 := hSw.cell' (i := 2) (v := .slice q 1 1) rfl
                have l3 := hSw.cell' (i := 3) (v := .bool false) rfl
                go_simp; try (with_reducible rfl)
              try simp only [Act.put, List.getElem_toArray, List.getElem_cons_succ, List.getElem_cons_zero, List.setIfInBounds_toArray, List.set_cons_zero, List.set_cons_succ]
              refine wpAnyH_take (i := 1) (v := ?_) rfl (by kernel_rfl) (by kernel_rfl) (by kernel_rfl) (fun _ _ _ h => h) (Or.inl ⟨by rfl, ?_⟩) hHeld ?_
              rotate_left
              · intro w' hSw; try dsimp only at hSw
                have l0 := hSw.cell' (i := 0) (v := .int .i64 xd) rfl
                have l1 := hSw.cell' (i := 1) (v := .int .i64 xs) rfl
                have l2 := hSw.cell' (i := 2) (v := .slice q 1 1) rfl
                have l3 := hSw.cell' (i := 3) (v := .bool false) rfl
                go_simp; try (with_reducible rfl)
              try simp only [Act.put, List.getElem_toArray, List.getElem_cons_succ, List.getElem_cons_zero, List.setIfInBounds_toArray, List.set_cons_zero, List.set_cons_succ]
              refine wpAnyH_take (i := 2) (v := ?_) rfl (by kernel_rfl) (by kernel_rfl) (by kernel_rfl) (fun _ _ _ h => h) (Or.inl ⟨by rfl, ?_⟩) hHeld ?_
              rotate_left
              · intro w' hSw; try dsimp only at hSw
                have l0 := hSw.cell' (i := 0) (v := .int .i64 xd) rfl
                have l1 := hSw.cell' (i := 1) (v := .int .i64 xs) rfl
                have l2 := hSw.cell' (i := 2) (v := .slice q 1 1) rfl
                have l3 := hSw.cell' (i := 3) (v := .bool false) rfl
                go_simp; try (with_reducible rfl)
              try simp only [Act.put, List.getElem_toArray, List.getElem_cons_succ, List.getElem_cons_zero, List.setIfInBounds_toArray, List.set_cons_zero, List.set_cons_succ]
              refine wpAnyH_take (i := 3) (v := ?_) rfl (by kernel_rfl) (by kernel_rfl) (by kernel_rfl) (fun _ _ _ h => h) (Or.inl ⟨by rfl, ?_⟩) hHeld ?_
              rotate_left
              · intro w' hSw; try dsimp only at hSw
                have l0 := hSw.cell' (i := 0) (v := .int .i64 xd) rfl
                have l1 := hSw.cell' (i := 1) (v := .int .i64 xs) rfl
                have l2 := hSw.cell' (i := 2) (v := .slice q 1 1) rfl
                have l3 := hSw.cell' (i := 3) (v := .bool false) rfl
                go_simp; try (with_reducible rfl)
              try simp only [Act.put, List.getElem_toArray, List.getElem_cons_succ, List.getElem_cons_zero, List.setIfInBounds_toArray, List.set_cons_zero, List.set_cons_succ]
              refine wpAnyH_take (i := 4) (v := ?_) rfl (by kernel_rfl) (by kernel_rfl) (by kernel_rfl) (fun _ _ _ h => h) (Or.inl ⟨by rfl, ?_⟩) hHeld ?_
              rotate_left
              · intro w' hSw; try dsimp only at hSw
                have l0 := hSw.cell' (i := 0) (v := .int .i64 xd) rfl
                have l1 := hSw.cell' (i := 1) (v := .int .i64 xs) rfl
                have l2 := hSw.cell' (i := 2) (v := .slice q 1 1) rfl
                have l3 := hSw.cell' (i := 3) (v := .bool false) rfl
                go_simp; try (with_reducible rfl)
              try simp only [Act.put, List.getElem_toArray, List.getElem_cons_succ, List.getElem_cons_zero, List.setIfInBounds_toArray, List.set_cons_zero, List.set_cons_succ]
              refine wpAnyH_take (i := 5) (v := ?_) rfl (by kernel_rfl) (by kernel_rfl) (by kernel_rfl) (fun _ _ _ h => h) (Or.inl ⟨by rfl, ?_⟩) hHeld ?_
              rotate_left
              · intro w' hSw; try dsimp only at hSw
                have l0 := hSw.cell' (i := 0) (v := .int .i64 xd) rfl
                have l1 := hSw.cell' (i := 1) (v := .int .i64 xs) rfl
                have l2 := hSw.cell' (i := 2) (v := .slice q 1 1) rfl
                have l3 := hSw.cell' (i := 3) (v := .bool false) rfl
                go_simp; try (with_reducible rfl)
              try simp only [Act.put, List.getElem_toArray, List.getElem_cons_succ, List.getElem_cons_zero, List.setIfInBounds_toArray, List.set_cons_zero, List.set_cons_succ]
              refine wpAnyH_take (i := 6) (v := ?_) rfl (by kernel_rfl) (by kernel_rfl) (by kernel_rfl) (fun _ _ _ h => h) (Or.inl ⟨by rfl, ?_⟩) hHeld ?_
              rotate_left
              · intro w' hSw; try dsimp only at hSw
                have l0 := hSw.cell' (i := 0) (v := .int .i64 xd) rfl
                have l1 := hSw.cell' (i := 1) (v := .int .i64 xs) rfl
                have l2 := hSw.cell' (i := 2) (v := .slice q 1 1) rfl
                have l3 := hSw.cell' (i := 3) (v := .bool false) rfl
                go_simp; try (with_reducible rfl)
              try simp only [Act.put, List.getElem_toArray, List.getElem_cons_succ, List.getElem_cons_zero, List.setIfInBounds_toArray, List.set_cons_zero, List.set_cons_succ]
              refine wpAnyH_ready (rs := [7]) (by kernel_rfl) (by simp) ?_
              refine AllReadyH.cons rfl (fun K hK => ?_) AllReadyH.nil
              go_simp
              refine (rsize_any (R7.below ((Below.refl _ _).drew))).mono ?_
              rw [hP.tlen]
              rintro e w' ⟨rfl, hw'⟩
              have hw2 := hw'.symm
              subst hw2
              clear hw'
              try go_wp2_with fail
              refine hK.out _ _ hHeld (fun hHeld => ?_)
              clear hK K
              try simp only [Act.put, List.getElem_toArray, List.getElem_cons_succ, List.getElem_cons_zero, List.setIfInBounds_toArray, List.set_cons_zero, List.set_cons_succ]
              refine wpAnyH_take (i := 8) (v := ?_) rfl (by kernel_rfl) (by kernel_rfl) (by kernel_rfl) (fun _ _ _ h => h) (Or.inl ⟨by rfl, ?_⟩) hHeld ?_
              rotate_left
              · intro w' hSw; try dsimp only at hSw
                go_simp; try (with_reducible rfl)
              try simp only [Act.put, List.getElem_toArray, List.getElem_cons_succ, List.getElem_cons_zero, List.setIfInBounds_toArray, List.set_cons_zero, List.set_cons_succ]
              refine wpAnyH_take (i := 9) (v := ?_) rfl (by kernel_rfl) (by kernel_rfl) (by kernel_rfl) (fun _ _ _ h => h) (Or.inl ⟨by rfl, ?_⟩) hHeld ?_
              rotate_left
              · intro w' hSw; try dsimp only at hSw
                go_simp; try (with_reducible rfl)
              try simp only [Act.put, List.getElem_toArray, List.getElem_cons_succ, List.getElem_cons_zero, List.setIfInBounds_toArray, List.set_cons_zero, List.set_cons_succ]
              refine wpAnyH_take (i := 10) (v := ?_) rfl (by kernel_rfl) (by kernel_rfl) (by kernel_rfl) (fun _ _ _ h => h) (Or.inl ⟨by rfl, ?_⟩) hHeld ?_
              rotate_left
              · intro w' hSw; try dsimp only at hSw
                go_simp; try (with_reducible rfl)
              try simp only [Act.put, List.getElem_toArray, List.getElem_cons_succ, List.getElem_cons_zero, List.setIfInBounds_toArray, List.set_cons_zero, List.set_cons_succ]
              refine wpAnyH_done (by kernel_rfl) ?_ _
              refine NoPanic.normal ?_
              have hOn := on_any (D7.below ((Below.refl _ _).drew))
              rw [hon] at hOn
              go_wp2_with (go_at_call 11; refine hOn.mono ?_; rintro e w' ⟨rfl, hw'⟩; have hw2 := hw'.symm; subst hw2; clear hw')
              go_roundw
              case rel => exact ⟨dn, k + 1, lv7, V', _, _, by omega, by omega, rfl, by go_num, (D7.below ((Below.refl _ _).drew)), (R7.below ((Below.refl _ _).drew)), hP, G7, hFR, hB7.drew⟩
              case measure => simp [intOf]; omega
            · by_cases hd : dn < cut
              · have hM := hP.no_on hno hon (cyc B' 256)
                rw [hM.1]
                rw [hM.2] at D7
                have hdc : (dn : Int) < (cut : Int) := by omega
                refine wp_region_noPanic ?_
                refine wp_region_held_drew (S := fun X => Blk X wr.heap.size 33 [.int .i64 xd, .int .i64 xs, .slice q 1 1, .bool false]) (by kernel_rfl) g7.drew (fun hHeld => ?_)
                refine wpAnyH_take (i := 0) (v := ?_) rfl (by kernel_rfl) (by kernel_rfl) (by kernel_rfl) (fun _ _ _ h => h) (Or.inl ⟨by rfl, ?_⟩) hHeld ?_
                rotate_left
                · intro w' hSw; try dsimp only at hSw
                  have l0 := hSw.cell' (i := 0) (v := .int .i64 xd) rfl
                  have l1 := hSw.cell' (i := 1) (v := .int .i64 xs) rfl
                  have l2 := hSw.cell' (i := 2) (v := .slice q 1 1) rfl
                  have l3 := hSw.cell' (i := 3) (v := .bool false) rfl
                  go_simp; try (with_reducible rfl)
                try simp only [Act.put, List.getElem_toArray, List.getElem_cons_succ, List.getElem_cons_zero, List.setIfInBounds_toArray, List.set_cons_zero, List.set_cons_succ]
                refine wpAnyH_take (i := 1) (v := ?_) rfl (by kernel_rfl) (by kernel_rfl) (by kernel_rfl) (fun _ _ _ h => h) (Or.inl ⟨by rfl, ?_⟩) hHeld ?_
                rotate_left
                · intro w' hSw; try dsimp only at hSw
                  have l0 := hSw.cell' (i := 0) (v := .int .i64 xd) rfl
                  have l1 := hSw.cell' (i := 1) (v := .int .i64 xs) rfl
                  have l2 := hSw.cell' (i := 2) (v := .slice q 1 1) rfl
                  have l3 := hSw.cell' (i := 3) (v := .bool false) rfl
                  go_simp; try (with_reducible rfl)
                try simp only [Act.put, List.getElem_toArray, List.getElem_cons_succ, List.getElem_cons_zero, List.setIfInBounds_toArray, List.set_cons_zero, List.set_cons_succ]
                refine wpAnyH_take (i := 2) (v := ?_) rfl (by kernel_rfl) (by kernel_rfl) (by kernel_rfl) (fun _ _ _ h => h) (Or.inl ⟨by rfl, ?_⟩) hHeld ?_
                rotate_left
                · intro w' hSw; try dsimp only at hSw
                  have l0 := hSw.cell' (i := 0) (v := .int .i64 xd) rfl
                  have l1 := hSw.cell' (i := 1) (v := .int .i64 xs) rfl
                  have l2 := hSw.cell' (i := 2) (v := .slice q 1 1) rfl
                  have l3 := hSw.cell' (i := 3) (v := .bool false) rfl
                  go_simp; try (with_reducible rfl)
                try simp only [Act.put, List.getElem_toArray, List.getElem_cons_succ, List.getElem_cons_zero, List.setIfInBounds_toArray, List.set_cons_zero, List.set_cons_succ]
                refine wpAnyH_take (i := 3) (v := ?_) rfl (by kernel_rfl) (by kernel_rfl) (by kernel_rfl) (fun _ _ _ h => h) (Or.inl ⟨by rfl, ?_⟩) hHeld ?_
                rotate_left
                · intro w' hSw; try dsimp only at hSw
                  have l0 := hSw.cell' (i := 0) (v := .int .i64 xd) rfl
                  have l1 := hSw.cell' (i := 1) (v := .int .i64 xs) rfl
                  have l2 := hSw.cell' (i := 2) (v := .slice q 1 1) rfl
                  have l3 := hSw.cell' (i := 3) (v := .bool false) rfl
                  go_simp; try (with_reducible rfl)
                try simp only [Act.put, List.getElem_toArray, List.getElem_cons_succ, List.getElem_cons_zero, List.setIfInBounds_toArray, List.set_cons_zero, List.set_cons_succ]
                refine wpAnyH_take (i := 4) (v := ?_) rfl (by kernel_rfl) (by kernel_rfl) (by kernel_rfl) (fun _ _ _ h => h) (Or.inl ⟨by rfl, ?_⟩) hHeld ?_
                rotate_left
                · intro w' hSw; try dsimp only at hSw
                  have l0 := hSw.cell' (i := 0) (v := .int .i64 xd) rfl
                  have l1 := hSw.cell' (i := 1) (v := .int .i64 xs) rfl
                  have l2 := hSw.cell' (i := 2) (v := .slice q 1 1) rfl
                  have l3 := hSw.cell' (i := 3) (v := .bool false) rfl
                  go_simp; try (with_reducible rfl)
                try simp only [Act.put, List.getElem_toArray, List.getElem_cons_succ, List.getElem_cons_zero, List.setIfInBounds_toArray, List.set_cons_zero, List.set_cons_succ]
                refine wpAnyH_take (i := 5) (v := ?_) rfl (by kernel_rfl) (by kernel_rfl) (by kernel_rfl) (fun _ _ _ h => h) (Or.inl ⟨by rfl, ?_⟩) hHeld ?_
                rotate_left
                · intro w' hSw; try dsimp only at hSw
                  have l0 := hSw.cell' (i := 0) (v := .int .i64 xd) rfl
                  have l1 := hSw.cell' (i := 1) (v := .int .i64 xs) rfl
                  have l2 := hSw.cell' (i := 2) (v := .slice q 1 1) rfl
                  have l3 := hSw.cell' (i := 3) (v := .bool false) rfl
                  go_simp; try (with_reducible rfl)
                try simp only [Act.put, List.getElem_toArray, List.getElem_cons_succ, List.getElem_cons_zero, List.setIfInBounds_toArray, List.set_cons_zero, List.set_cons_succ]
                refine wpAnyH_take (i := 6) (v := ?_) rfl (by kernel_rfl) (by kernel_rfl) (by kernel_rfl) (fun _ _ _ h => h) (Or.inl ⟨by rfl, ?_⟩) hHeld ?_
                rotate_left
                · intro w' hSw; try dsimp only at hSw
                  have l0 := hSw.cell' (i := 0) (v := .int .i64 xd) rfl
                  have l1 := hSw.cell' (i := 1) (v := .int .i64 xs) rfl
                  have l2 := hSw.cell' (i := 2) (v := .slice q 1 1) rfl
                  have l3 := hSw.cell' (i := 3) (v := .bool false) rfl
                  go_simp; try (with_reducible rfl)
                try simp only [Act.put, List.getElem_toArray, List.getElem_cons_succ, List.getElem_cons_zero, List.setIfInBounds_toArray, List.set_cons_zero, List.set_cons_succ]
                refine wpAnyH_ready (rs := [7]) (by kernel_rfl) (by simp) ?_
                refine AllReadyH.cons rfl (fun K hK => ?_) AllReadyH.nil
                go_simp
                refine (rsize_any (R7.below ((Below.refl _ _).drew))).mono ?_
                rw [hP.tlen]
                rintro e w' ⟨rfl, hw'⟩
                have hw2 := hw'.symm
                subst hw2
                clear hw'
                try go_wp2_with fail
                refine hK.out _ _ hHeld (fun hHeld => ?_)
                clear hK K
                try simp only [Act.put, List.getElem_toArray, List.getElem_cons_succ, List.getElem_cons_zero, List.setIfInBounds_toArray, List.set_cons_zero, List.set_cons_succ]
                refine wpAnyH_take (i := 8) (v := ?_) rfl (by kernel_rfl) (by kernel_rfl) (by kernel_rfl) (fun _ _ _ h => h) (Or.inl ⟨by rfl, ?_⟩) hHeld ?_
                rotate_left
                · intro w' hSw; try dsimp only at hSw
                  go_simp; try (with_reducible rfl)
                try simp only [Act.put, List.getElem_toArray, List.getElem_cons_succ, List.getElem_cons_zero, List.setIfInBounds_toArray, List.set_cons_zero, List.set_cons_succ]
                refine wpAnyH_take (i := 9) (v := ?_) rfl (by kernel_rfl) (by kernel_rfl) (by kernel_rfl) (fun _ _ _ h => h) (Or.inl ⟨by rfl, ?_⟩) hHeld ?_
                rotate_left
                · intro w' hSw; try dsimp only at hSw
                  go_simp; try (with_reducible rfl)
                try simp only [Act.put, List.getElem_toArray, List.getElem_cons_succ, List.getElem_cons_zero, List.setIfInBounds_toArray, List.set_cons_zero, List.set_cons_succ]
                refine wpAnyH_take (i := 10) (v := ?_) rfl (by kernel_rfl) (by kernel_rfl) (by kernel_rfl) (fun _ _ _ h => h) (Or.inl ⟨by rfl, ?_⟩) hHeld ?_
                rotate_left
                · intro w' hSw; try dsimp only at hSw
                  go_simp; try (with_reducible rfl)
                try simp only [Act.put, List.getElem_toArray, List.getElem_cons_succ, List.getElem_cons_zero, List.setIfInBounds_toArray, List.set_cons_zero, List.set_cons_succ]
                refine wpAnyH_done (by kernel_rfl) ?_ _
                refine NoPanic.normal ?_
                go_wp2_with fail
                go_roundw
                case rel => exact ⟨dn, k + 1, lv7, V', _, _, by omega, by omega, rfl, by go_num, (D7.below ((Below.refl _ _).drew)), (R7.below ((Below.refl _ _).drew)), hP, G7, hFR, hB7.drew⟩
                case measure => simp [intOf]; omega
              · have hM := hP.no_on hno hon (cyc B' 256)
                rw [hM.1]
                rw [hM.2] at D7
                have hdc : ¬ (dn : Int) < (cut : Int) := by omega
                refine wp_region_noPanic ?_
                refine wp_region_held_drew (S := fun X => Blk X wr.heap.size 33 [.int .i64 xd, .int .i64 xs, .slice q 1 1, .bool false]) (by kernel_rfl) g7.drew (fun hHeld => ?_)
                refine wpAnyH_take (i := 0) (v := ?_) rfl (by kernel_rfl) (by kernel_rfl) (by kernel_rfl) (fun _ _ _ h => h) (Or.inl ⟨by rfl, ?_⟩) hHeld ?_
                rotate_left
                · intro w' hSw; try dsimp only at hSw
                  have l0 := hSw.cell' (i := 0) (v := .int .i64 xd) rfl
                  have l1 := hSw.cell' (i := 1) (v := .int .i64 xs) rfl
                  have l2 := hSw.cell' (i := 2) (v := .slice q 1 1) rfl
                  have l3 := hSw.cell' (i := 3) (v := .bool false) rfl
                  go_simp; try (with_reducible rfl)
                try simp only [Act.put, List.getElem_toArray, List.getElem_cons_succ, List.getElem_cons_zero, List.setIfInBounds_toArray, List.set_cons_zero, List.set_cons_succ]
                refine wpAnyH_take (i := 1) (v := ?_) rfl (by kernel_rfl) (by kernel_rfl) (by kernel_rfl) (fun _ _ _ h => h) (Or.inl ⟨by rfl, ?_⟩) hHeld ?_
                rotate_left
                · intro w' hSw; try dsimp only at hSw
                  have l0 := hSw.cell' (i := 0) (v := .int .i64 xd) rfl
                  have l1 := hSw.cell' (i := 1) (v := .int .i64 xs) rfl
                  have l2 := hSw.cell' (i := 2) (v := .slice q 1 1) rfl
                  have l3 := hSw.cell' (i := 3) (v := .bool false) rfl
                  go_simp; try (with_reducible rfl)
                try simp only [Act.put, List.getElem_toArray, List.getElem_cons_succ, List.getElem_cons_zero, List.setIfInBounds_toArray, List.set_cons_zero, List.set_cons_succ]
                refine wpAnyH_take (i := 2) (v := ?_) rfl (by kernel_rfl) (by kernel_rfl) (by kernel_rfl) (fun _ _ _ h => h) (Or.inl ⟨by rfl, ?_⟩) hHeld ?_
                rotate_left
                · intro w' hSw; try dsimp only at hSw
                  have l0 := hSw.cell' (i := 0) (v := .int .i64 xd) rfl
                  have l1 := hSw.cell' (i := 1) (v := .int .i64 xs) rfl
                  have l2 := hSw.cell' (i := 2) (v := .slice q 1 1) rfl
                  have l3 := hSw.cell' (i := 3) (v := .bool false) rfl
                  go_simp; try (with_reducible rfl)
                try simp only [Act.put, List.getElem_toArray, List.getElem_cons_succ, List.getElem_cons_zero, List.setIfInBounds_toArray, List.set_cons_zero, List.set_cons_succ]
                refine wpAnyH_take (i := 3) (v := ?_) rfl (by kernel_rfl) (by kernel_rfl) (by kernel_rfl) (fun _ _ _ h => h) (Or.inl ⟨by rfl, ?_⟩) hHeld ?_
                rotate_left
                · intro w' hSw; try dsimp only at hSw
                  have l0 := hSw.cell' (i := 0) (v := .int .i64 xd) rfl
                  have l1 := hSw.cell' (i := 1) (v := .int .i64 xs) rfl
                  have l2 := hSw.cell' (i := 2) (v := .slice q 1 1) rfl
                  have l3 := hSw.cell' (i := 3) (v := .bool false) rfl
                  go_simp; try (with_reducible rfl)
                try simp only [Act.put, List.getElem_toArray, List.getElem_cons_succ, List.getElem_cons_zero, List.setIfInBounds_toArray, List.set_cons_zero, List.set_cons_succ]
                refine wpAnyH_take (i := 4) (v := ?_) rfl (by kernel_rfl) (by kernel_rfl) (by kernel_rfl) (fun _ _ _ h => h) (Or.inl ⟨by rfl, ?_⟩) hHeld ?_
                rotate_left
                · intro w' hSw; try dsimp only at hSw
                  have l0 := hSw.cell' (i := 0) (v := .int .i64 xd) rfl
                  have l1 := hSw.cell' (i := 1) (v := .int .i64 xs) rfl
                  have l2 := hSw.cell' (i := 2) (v := .slice q 1 1) rfl
                  have l3 := hSw.cell' (i := 3) (v := .bool false) rfl
                  go_simp; try (with_reducible rfl)
                try simp only [Act.put, List.getElem_toArray, List.getElem_cons_succ, List.getElem_cons_zero, List.setIfInBounds_toArray, List.set_cons_zero, List.set_cons_succ]
                refine wpAnyH_take (i := 5) (v := ?_) rfl (by kernel_rfl) (by kernel_rfl) (by kernel_rfl) (fun _ _ _ h => h) (Or.inl ⟨by rfl, ?_⟩) hHeld ?_
                rotate_left
                · intro w' hSw; try dsimp only at hSw
                  have l0 := hSw.cell' (i := 0) (v := .int .i64 xd) rfl
                  have l1 := hSw.cell' (i := 1) (v := .int .i64 xs) rfl
                  have l2 := hSw.cell' (i := 2) (v := .slice q 1 1) rfl
                  have l3 := hSw.cell' (i := 3) (v := .bool false) rfl
                  go_simp; try (with_reducible rfl)
                try simp only [Act.put, List.getElem_toArray, List.getElem_cons_succ, List.getElem_cons_zero, List.setIfInBounds_toArray, List.set_cons_zero, List.set_cons_succ]
                refine wpAnyH_take (i := 6) (v := ?_) rfl (by kernel_rfl) (by kernel_rfl) (by kernel_rfl) (fun _ _ _ h => h) (Or.inl ⟨by rfl, ?_⟩) hHeld ?_
                rotate_left
                · intro w' hSw; try dsimp only at hSw
                  have l0 := hSw.cell' (i := 0) (v := .int .i64 xd) rfl
                  have l1 := hSw.cell' (i := 1) (v := .int .i64 xs) rfl
                  have l2 := hSw.cell' (i := 2) (v := .slice q 1 1) rfl
                  have l3 := hSw.cell' (i := 3) (v := .bool false) rfl
                  go_simp; try (with_reducible rfl)
                try simp only [Act.put, List.getElem_toArray, List.getElem_cons_succ, List.getElem_cons_zero, List.setIfInBounds_toArray, List.set_cons_zero, List.set_cons_succ]
                refine wpAnyH_ready (rs := [7]) (by kernel_rfl) (by simp) ?_
                refine AllReadyH.cons rfl (fun K hK => ?_) AllReadyH.nil
                go_simp
                refine (rsize_any (R7.below ((Below.refl _ _).drew))).mono ?_
                rw [hP.tlen]
                rintro e w' ⟨rfl, hw'⟩
                have hw2 := hw'.symm
                subst hw2
                clear hw'
                try go_wp2_with fail
                refine hK.out _ _ hHeld (fun hHeld => ?_)
                clear hK K
                try simp only [Act.put, List.getElem_toArray, List.getElem_cons_succ, List.getElem_cons_zero, List.setIfInBounds_toArray, List.set_cons_zero, List.set_cons_succ]
                refine wpAnyH_take (i := 8) (v := ?_) rfl (by kernel_rfl) (by kernel_rfl) (by kernel_rfl) (fun _ _ _ h => h) (Or.inl ⟨by rfl, ?_⟩) hHeld ?_
                rotate_left
                · intro w' hSw; try dsimp only at hSw
                  go_simp; try (with_reducible rfl)
                try simp only [Act.put, List.getElem_toArray, List.getElem_cons_succ, List.getElem_cons_zero, List.setIfInBounds_toArray, List.set_cons_zero, List.set_cons_succ]
                refine wpAnyH_take (i := 9) (v := ?_) rfl (by kernel_rfl) (by kernel_rfl) (by kernel_rfl) (fun _ _ _ h => h) (Or.inl ⟨by rfl, ?_⟩) hHeld ?_
                rotate_left
                · intro w' hSw; try dsimp only at hSw
                  go_simp; try (with_reducible rfl)
                try simp only [Act.put, List.getElem_toArray, List.getElem_cons_succ, List.getElem_cons_zero, List.setIfInBounds_toArray, List.set_cons_zero, List.set_cons_succ]
                refine wpAnyH_take (i := 10) (v := ?_) rfl (by kernel_rfl) (by kernel_rfl) (by kernel_rfl) (fun _ _ _ h => h) (Or.inl ⟨by rfl, ?_⟩) hHeld ?_
                rotate_left
                · intro w' hSw; try dsimp only at hSw
                  go_simp; try (with_reducible rfl)
                try simp only [Act.put, List.getElem_toArray, List.getElem_cons_succ, List.getElem_cons_zero, List.setIfInBounds_toArray, List.set_cons_zero, List.set_cons_succ]
                refine wpAnyH_done (by kernel_rfl) ?_ _
                refine NoPanic.normal ?_
                have hOn := on_any (D7.below ((Below.refl _ _).drew))
                rw [hon] at hOn
                go_wp2_with (go_at_call 11; refine hOn.mono ?_; rintro e w' ⟨rfl, hw'⟩; have hw2 := hw'.symm; subst hw2; clear hw')
                go_roundw
                case rel => exact ⟨dn, k + 1, lv7, V', _, _, by omega, by omega, rfl, by go_num, (D7.below ((Below.refl _ _).drew)), (R7.below ((Below.refl _ _).drew)), hP, G7, hFR, hB7.drew⟩
                case measure => simp [intOf]; omega
      · have hxm : ((xm : Int) == 0) = false := by simp; omega
        have hroom := hin.room
        go_wp2_with fail
        have g5 := Blk.new' wr 33 #[.int .i64 xd, .int .i64 xs, .slice xq xm xc, .bool false]
        have b5 := below_alloc wr (.cells #[.int .i64 xd, .int .i64 xs, .slice xq xm xc, .bool false] 33)
        have hin5 := hin.below b5
        have hin0 := ho.bytes k _ hx
        dsimp only at hin0
        have hqa : ∀ a, xq = some a → a.block < w.heap.size := fun a ha => by obtain ⟨b1, o1, hp1, hl1, _⟩ := hin0.at' (by omega); rw [hp1] at ha; cases ha; exact hl1
        have hqD : ∀ a, xq = some a → ¬ fpD d sb lv a.block := fun a ha hf => by have h1 := hqa a ha; have h2 := hFD _ hf; omega
        have hqR : ∀ a, xq = some a → ¬ fpR r V' a.block := fun a ha hf => by have h1 := hqa a ha; have h2 := hFR _ hf; omega
        have hBn : xB ≠ [] := by intro e; have := hin.len; rw [e] at this; simp at this; omega
        have HZ : Hid (fullL xB false = cyc xB 256) := by show _ = _; simp [fullL, hBn]
        clear hin0 hqa hBn
        generalize wr.alloc (.cells #[.int .i64 xd, .int .i64 xs, .slice xq xm xc, .bool false] 33) = w5 at *
        generalize xB = B' at *
        generalize xq = q at *
        clear c0 c1 c2 c3 hin
        refine wp_region_noPanic ?_
        refine wp_region_held_drew (S := fun X => Blk X wr.heap.size 33 [.int .i64 xd, .int .i64 xs, .slice q xm xc, .bool false]) (by kernel_rfl) g5.drew (fun hHeld => ?_)
        refine wpAnyH_take (i := 0) (v := ?_) rfl (by kernel_rfl) (by kernel_rfl) (by kernel_rfl) (fun _ _ _ h => h) (Or.inl ⟨by rfl, ?_⟩) hHeld ?_
        rotate_left
        · intro w' hSw; try dsimp only at hSw
          go_simp; try (with_reducible rfl)
        try simp only [Act.put, List.getElem_toArray, List.getElem_cons_succ, List.getElem_cons_zero, List.setIfInBounds_toArray, List.set_cons_zero, List.set_cons_succ]
        refine wpAnyH_take (i := 1) (v := ?_) rfl (by kernel_rfl) (by kernel_rfl) (by kernel_rfl) (fun _ _ _ h => h) (Or.inl ⟨by rfl, ?_⟩) hHeld ?_
        rotate_left
        · intro w' hSw; try dsimp only at hSw
          go_simp; try (with_reducible rfl)
        try simp only [Act.put, List.getElem_toArray, List.getElem_cons_succ, List.getElem_cons_zero, List.setIfInBounds_toArray, List.set_cons_zero, List.set_cons_succ]
        refine wpAnyH_take (i := 2) (v := ?_) rfl (by kernel_rfl) (by kernel_rfl) (by kernel_rfl) (fun _ _ _ h => h) (Or.inl ⟨by rfl, ?_⟩) hHeld ?_
        rotate_left
        · intro w' hSw; try dsimp only at hSw
          have l0 := hSw.cell' (i := 0) (v := .int .i64 xd) rfl
          have l1 := hSw.cell' (i := 1) (v := .int .i64 xs) rfl
          have l2 := hSw.cell' (i := 2) (v := .slice q xm xc) rfl
          have l3 := hSw.cell' (i := 3) (v := .bool false) rfl
          go_simp; try (with_reducible rfl)
        try simp only [Act.put, List.getElem_toArray, List.getElem_cons_succ, List.getElem_cons_zero, List.setIfInBounds_toArray, List.set_cons_zero, List.set_cons_succ]
        refine wpAnyH_take (i := 3) (v := ?_) rfl (by kernel_rfl) (by kernel_rfl) (by kernel_rfl) (fun _ _ _ h => h) (Or.inl ⟨by rfl, ?_⟩) hHeld ?_
        rotate_left
        · intro w' hSw; try dsimp only at hSw
          have l0 := hSw.cell' (i := 0) (v := .int .i64 xd) rfl
          have l1 := hSw.cell' (i := 1) (v := .int .i64 xs) rfl
          have l2 := hSw.cell' (i := 2) (v := .slice q xm xc) rfl
          have l3 := hSw.cell' (i := 3) (v := .bool false) rfl
          go_simp; try (with_reducible rfl)
        try simp only [Act.put, List.getElem_toArray, List.getElem_cons_succ, List.getElem_cons_zero, List.setIfInBounds_toArray, List.set_cons_zero, List.set_cons_succ]
        refine wpAnyH_ready (rs := [4]) (by kernel_rfl) (by simp) ?_
        refine AllReadyH.cons rfl (fun K hK => ?_) AllReadyH.nil
        go_simp
        refine (full_any xd xs q xm xc false B' _ (hin5.below ((Below.refl _ _).drew))).mono ?_
        rintro e w6 ⟨p6, n6, c6, rfl, hin6, hb6, hq6⟩
        try go_wp2_with fail
        refine hK.out _ _ (g5.drew.kept hb6) (fun hHeld => ?_)
        clear hK K
        try simp only [Act.put, List.getElem_toArray, List.getElem_cons_succ, List.getElem_cons_zero, List.setIfInBounds_toArray, List.set_cons_zero, List.set_cons_succ]
        have hn6 : n6 = 256 := by have := hin6.len; rw [HZ.out] at this; rw [cyc_length] at this; omega
        subst hn6
        rw [HZ.out] at hin6
        have b6 : Below wr.heap.size wr w6 := bt (bt b5 ((Below.refl _ w5).drew)) hb6
        have D6 := hD.below b6
        have g6 := g5.drew.kept hb6
        refine wpAnyH_ready (rs := [5]) (by kernel_rfl) (by simp) ?_
        refine AllReadyH.cons rfl (fun K hK => ?_) AllReadyH.nil
        go_simp
        refine (write_any D6 xs p6 256 c6 (cyc B' 256) hin6 (by have := hP.w; omega)).mono ?_
        rintro e w7 ⟨rfl, lv7, A7⟩
        try go_wp2_with fail
        refine hK.out _ _ (g6.keep A7.keep (fun e => by have := hD.lt e; omega)) (fun hHeld => ?_)
        clear hK K
        try simp only [Act.put, List.getElem_toArray, List.getElem_cons_succ, List.getElem_cons_zero, List.setIfInBounds_toArray, List.set_cons_zero, List.set_cons_succ]
        refine wpAnyH_take (i := 6) (v := ?_) rfl (by kernel_rfl) (by kernel_rfl) (by kernel_rfl) (fun _ _ _ h => h) (Or.inl ⟨by rfl, ?_⟩) hHeld ?_
        rotate_left
        · intro w' hSw; try dsimp only at hSw
          go_simp; try (with_reducible rfl)
        try simp only [Act.put, List.getElem_toArray, List.getElem_cons_succ, List.getElem_cons_zero, List.setIfInBounds_toArray, List.set_cons_zero, List.set_cons_succ]
        refine wpAnyH_done (by kernel_rfl) ?_ _
        refine NoPanic.normal ?_
        have R7 := (hR.below b6).keepD D6 A7.keep
        have g7 := hHeld
        have hBw6 : Below w.heap.size w w6 := bt hB b6
        have hB7 : Below w.heap.size w w7 := hBw6.trans (A7.belowB hBw6.size hFD)
        have G7 := A7.fp hBw6.size hFD
        have hin7 : In w7 q xm xc B' := hin5.keep ((Keep.of_below (S := fpD d sb lv) (bt ((Below.refl _ w5).drew) hb6)).trans A7.keep (fun _ _ e => e)) hqD
        have D7 := A7.disk
        have hZ : (cyc B' 256).length = 256 := cyc_length _ _
        clear D6 g6 hb6 hin6 hHeld g5 hin5
        go_wp2_with fail
        by_cases hneg : xs < 0
        · have hno : hasB (N + 1) xs = false := by simp [hasB]; omega
          have hng : ¬ 0 ≤ xs := by omega
          cases hon : s.on
          · have hdc : ¬ (dn : Int) < (cut : Int) := by have := hP.off hon; omega
            have hM := PRel.no_off (i := xs) hon (cyc B' 256)
            rw [hM.1]
            rw [hM.2] at D7
            refine wp_region_noPanic ?_
            refine wp_region_held_drew (S := fun X => Blk X wr.heap.size 33 [.int .i64 xd, .int .i64 xs, .slice q xm xc, .bool false]) (by kernel_rfl) g7.drew (fun hHeld => ?_)
            refine wpAnyH_take (i := 0) (v := ?_) rfl (by kernel_rfl) (by kernel_rfl) (by kernel_rfl) (fun _ _ _ h => h) (Or.inl ⟨by rfl, ?_⟩) hHeld ?_
            rotate_left
            · intro w' hSw; try dsimp only at hSw
              have l0 := hSw.cell' (i := 0) (v := .int .i64 xd) rfl
              have l1 := hSw.cell' (i := 1) (v := .int .i64 xs) rfl
              have l2 := hSw.cell' (i := 2) (v := .slice q xm xc) rfl
              have l3 := hSw.cell' (i := 3) (v := .bool false) rfl
              go_simp; try (with_reducible rfl)
            try simp only [Act.put, List.getElem_toArray, List.getElem_cons_succ, List.getElem_cons_zero, List.setIfInBounds_toArray, List.set_cons_zero, List.set_cons_succ]
            refine wpAnyH_take (i := 1) (v := ?_) rfl (by kernel_rfl) (by kernel_rfl) (by kernel_rfl) (fun _ _ _ h => h) (Or.inl ⟨by rfl, ?_⟩) hHeld ?_
            rotate_left
            · intro w' hSw; try dsimp only at hSw
              have l0 := hSw.cell' (i := 0) (v := .int .i64 xd) rfl
              have l1 := hSw.cell' (i := 1) (v := .int .i64 xs) rfl
              have l2 := hSw.cell' (i := 2) (v := .slice q xm xc) rfl
              have l3 := hSw.cell' (i := 3) (v := .bool false) rfl
              go_simp; try (with_reducible rfl)
            try simp only [Act.put, List.getElem_toArray, List.getElem_cons_succ, List.getElem_cons_zero, List.setIfInBounds_toArray, List.set_cons_zero, List.set_cons_succ]
            refine wpAnyH_take (i := 2) (v := ?_) rfl (by kernel_rfl) (by kernel_rfl) (by kernel_rfl) (fun _ _ _ h => h) (Or.inl ⟨by rfl, ?_⟩) hHeld ?_
            rotate_left
            · intro w' hSw; try dsimp only at hSw
              have l0 := hSw.cell' (i := 0) (v := .int .i64 xd) rfl
              have l1 := hSw.cell' (i := 1) (v := .int .i64 xs) rfl
              have l2 := hSw.cell' (i := 2) (v := .slice q xm xc) rfl
              have l3 := hSw.cell' (i := 3) (v := .bool false) rfl
              go_simp; try (with_reducible rfl)
            try simp only [Act.put, List.getElem_toArray, List.getElem_cons_succ, List.getElem_cons_zero, List.setIfInBounds_toArray, List.set_cons_zero, List.set_cons_succ]
            refine wpAnyH_take (i := 3) (v := ?_) rfl (by kernel_rfl) (by kernel_rfl) (by kernel_rfl) (fun _ _ _ h => h) (Or.inl ⟨by rfl, ?_⟩) hHeld ?_
            rotate_left
            · intro w' hSw; try dsimp only at hSw
              have l0 := hSw.cell' (i := 0) (v := .int .i64 xd) rfl
              have l1 := hSw.cell' (i := 1) (v := .int .i64 xs) rfl
              have l2 := hSw.cell' (i := 2) (v := .slice q xm xc) rfl
              have l3 := hSw.cell' (i := 3) (v := .bool false) rfl
              go_simp; try (with_reducible rfl)
            try simp only [Act.put, List.getElem_toArray, List.getElem_cons_succ, List.getElem_cons_zero, List.setIfInBounds_toArray, List.set_cons_zero, List.set_cons_succ]
            refine wpAnyH_take (i := 4) (v := undef) rfl (by kernel_rfl) (by kernel_rfl) (by kernel_rfl) (fun _ _ _ h => h) (Or.inr ⟨by rfl, rfl⟩) hHeld ?_
            try simp only [Act.put, List.getElem_toArray, List.getElem_cons_succ, List.getElem_cons_zero, List.setIfInBounds_toArray, List.set_cons_zero, List.set_cons_succ]
            refine wpAnyH_take (i := 5) (v := undef) rfl (by kernel_rfl) (by kernel_rfl) (by kernel_rfl) (fun _ _ _ h => h) (Or.inr ⟨by rfl, rfl⟩) hHeld ?_
            try simp only [Act.put, List.getElem_toArray, List.getElem_cons_succ, List.getElem_cons_zero, List.setIfInBounds_toArray, List.set_cons_zero, List.set_cons_succ]
            refine wpAnyH_take (i := 6) (v := undef) rfl (by kernel_rfl) (by kernel_rfl) (by kernel_rfl) (fun _ _ _ h => h) (Or.inr ⟨by rfl, rfl⟩) hHeld ?_
            try simp only [Act.put, List.getElem_toArray, List.getElem_cons_succ, List.getElem_cons_zero, List.setIfInBounds_toArray, List.set_cons_zero, List.set_cons_succ]
            refine wpAnyH_take (i := 7) (v := undef) rfl (by kernel_rfl) (by kernel_rfl) (by kernel_rfl) (fun _ _ _ h => h) (Or.inr ⟨by rfl, rfl⟩) hHeld ?_
            try simp only [Act.put, List.getElem_toArray, List.getElem_cons_succ, List.getElem_cons_zero, List.setIfInBounds_toArray, List.set_cons_zero, List.set_cons_succ]
            refine wpAnyH_take (i := 8) (v := undef) rfl (by kernel_rfl) (by kernel_rfl) (by kernel_rfl) (fun _ _ _ h => h) (Or.inr ⟨by rfl, rfl⟩) hHeld ?_
            try simp only [Act.put, List.getElem_toArray, List.getElem_cons_succ, List.getElem_cons_zero, List.setIfInBounds_toArray, List.set_cons_zero, List.set_cons_succ]
            refine wpAnyH_take (i := 9) (v := ?_) rfl (by kernel_rfl) (by kernel_rfl) (by kernel_rfl) (fun _ _ _ h => h) (Or.inl ⟨by rfl, ?_⟩) hHeld ?_
            rotate_left
            · intro w' hSw; try dsimp only at hSw
              go_simp; try (with_reducible rfl)
            try simp only [Act.put, List.getElem_toArray, List.getElem_cons_succ, List.getElem_cons_zero, List.setIfInBounds_toArray, List.set_cons_zero, List.set_cons_succ]
            refine wpAnyH_take (i := 10) (v := ?_) rfl (by kernel_rfl) (by kernel_rfl) (by kernel_rfl) (fun _ _ _ h => h) (Or.inl ⟨by rfl, ?_⟩) hHeld ?_
            rotate_left
            · intro w' hSw; try dsimp only at hSw
              go_simp; try (with_reducible rfl)
            try simp only [Act.put, List.getElem_toArray, List.getElem_cons_succ, List.getElem_cons_zero, List.setIfInBounds_toArray, List.set_cons_zero, List.set_cons_succ]
            refine wpAnyH_done (by kernel_rfl) ?_ _
            refine NoPanic.normal ?_
            have hOn := on_any (D7.below ((Below.refl _ _).drew))
            rw [hon] at hOn
            go_wp2_with (go_at_call 11; refine hOn.mono ?_; rintro e w' ⟨rfl, hw'⟩; have hw2 := hw'.symm; subst hw2; clear hw')
            go_roundw
            case rel => exact ⟨dn, k + 1, lv7, V', _, _, by omega, by omega, rfl, by go_num, (D7.below ((Below.refl _ _).drew)), (R7.below ((Below.refl _ _).drew)), hP, G7, hFR, hB7.drew⟩
            case measure => simp [intOf]; omega
          · by_cases hd : dn < cut
            · have hM := hP.no_on hno hon (cyc B' 256)
              rw [hM.1]
              rw [hM.2] at D7
              have hdc : (dn : Int) < (cut : Int) := by omega
              refine wp_region_noPanic ?_
              refine wp_region_held_drew (S := fun X => Blk X wr.heap.size 33 [.int .i64 xd, .int .i64 xs, .slice q xm xc, .bool false]) (by kernel_rfl) g7.drew (fun hHeld => ?_)
              refine wpAnyH_take (i := 0) (v := ?_) rfl (by kernel_rfl) (by kernel_rfl) (by kernel_rfl) (fun _ _ _ h => h) (Or.inl ⟨by rfl, ?_⟩) hHeld ?_
              rotate_left
              · intro w' hSw; try dsimp only at hSw
                have l0 := hSw.cell' (i := 0) (v := .int .i64 xd) rfl
                have l1 := hSw.cell' (i := 1) (v := .int .i64 xs) rfl
                have l2 := hSw.cell' (i := 2) (v := .slice q xm xc) rfl
                have l3 := hSw.cell' (i := 3) (v := .bool false) rfl
                go_simp; try (with_reducible rfl)
              try simp only [Act.put, List.getElem_toArray, List.getElem_cons_succ, List.getElem_cons_zero, List.setIfInBounds_toArray, List.set_cons_zero, List.set_cons_succ]
              refine wpAnyH_take (i := 1) (v := ?_) rfl (by kernel_rfl) (by kernel_rfl) (by kernel_rfl) (fun _ _ _ h => h) (Or.inl ⟨by rfl, ?_⟩) hHeld ?_
              rotate_left
              · intro w' hSw; try dsimp only at hSw
                have l0 := hSw.cell' (i := 0) (v := .int .i64 xd) rfl
                have l1 := hSw.cell' (i := 1) (v := .int .i64 xs) rfl
                have l2 := hSw.cell' (i := 2) (v := .slice q xm xc) rfl
                have l3 := hSw.cell' (i := 3) (v := .bool false) rfl
                go_simp; try (with_reducible rfl)
              try simp only [Act.put, List.getElem_toArray, List.getElem_cons_succ, List.getElem_cons_zero, List.setIfInBounds_toArray, List.set_cons_zero, List.set_cons_succ]
              refine wpAnyH_take (i := 2) (v := ?_) rfl (by kernel_rfl) (by kernel_rfl) (by kernel_rfl) (fun _ _ _ h => h) (Or.inl ⟨by rfl, ?_⟩) hHeld ?_
              rotate_left
              · intro w' hSw; try dsimp only at hSw
                have l0 := hSw.cell' (i := 0) (v := .int .i64 xd) rfl
                have l1 := hSw.cell' (i := 1) (v := .int .i64 xs) rfl
                have l2 := hSw.cell' (i := 2) (v := .slice q xm xc) rfl
                have l3 := hSw.cell' (i := 3) (v := .bool false) rfl
                go_simp; try (with_reducible rfl)
              try simp only [Act.put, List.getElem_toArray, List.getElem_cons_succ, List.getElem_cons_zero, List.setIfInBounds_toArray, List.set_cons_zero, List.set_cons_succ]
              refine wpAnyH_take (i := 3) (v := ?_) rfl (by kernel_rfl) (by kernel_rfl) (by kernel_rfl) (fun _ _ _ h => h) (Or.inl ⟨by rfl, ?_⟩) hHeld ?_
              rotate_left
              · intro w' hSw; try dsimp only at hSw
                have l0 := hSw.cell' (i := 0) (v := .int .i64 xd) rfl
                have l1 := hSw.cell' (i := 1) (v := .int .i64 xs) rfl
                have l2 := hSw.cell' (i := 2) (v := .slice q xm xc) rfl
                have l3 := hSw.cell' (i := 3) (v := .bool false) rfl
                go_simp; try (with_reducible rfl)
              try simp only [Act.put, List.getElem_toArray, List.getElem_cons_succ, List.getElem_cons_zero, List.setIfInBounds_toArray, List.set_cons_zero, List.set_cons_succ]
              refine wpAnyH_take (i := 4) (v := undef) rfl (by kernel_rfl) (by kernel_rfl) (by kernel_rfl) (fun _ _ _ h => h) (Or.inr ⟨by rfl, rfl⟩) hHeld ?_
              try simp only [Act.put, List.getElem_toArray, List.getElem_cons_succ, List.getElem_cons_zero, List.setIfInBounds_toArray, List.set_cons_zero, List.set_cons_succ]
              refine wpAnyH_take (i := 5) (v := undef) rfl (by kernel_rfl) (by kernel_rfl) (by kernel_rfl) (fun _ _ _ h => h) (Or.inr ⟨by rfl, rfl⟩) hHeld ?_
              try simp only [Act.put, List.getElem_toArray, List.getElem_cons_succ, List.getElem_cons_zero, List.setIfInBounds_toArray, List.set_cons_zero, List.set_cons_succ]
              refine wpAnyH_take (i := 6) (v := undef) rfl (by kernel_rfl) (by kernel_rfl) (by kernel_rfl) (fun _ _ _ h => h) (Or.inr ⟨by rfl, rfl⟩) hHeld ?_
              try simp only [Act.put, List.getElem_toArray, List.getElem_cons_succ, List.getElem_cons_zero, List.setIfInBounds_toArray, List.set_cons_zero, List.set_cons_succ]
              refine wpAnyH_take (i := 7) (v := undef) rfl (by kernel_rfl) (by kernel_rfl) (by kernel_rfl) (fun _ _ _ h => h) (Or.inr ⟨by rfl, rfl⟩) hHeld ?_
              try simp only [Act.put, List.getElem_toArray, List.getElem_cons_succ, List.getElem_cons_zero, List.setIfInBounds_toArray, List.set_cons_zero, List.set_cons_succ]
              refine wpAnyH_take (i := 8) (v := undef) rfl (by kernel_rfl) (by kernel_rfl) (by kernel_rfl) (fun _ _ _ h => h) (Or.inr ⟨by rfl, rfl⟩) hHeld ?_
              try simp only [Act.put, List.getElem_toArray, List.getElem_cons_succ, List.getElem_cons_zero, List.setIfInBounds_toArray, List.set_cons_zero, List.set_cons_succ]
              refine wpAnyH_take (i := 9) (v := ?_) rfl (by kernel_rfl) (by kernel_rfl) (by kernel_rfl) (fun _ _ _ h => h) (Or.inl ⟨by rfl, ?_⟩) hHeld ?_
              rotate_left
              · intro w' hSw; try dsimp only at hSw
                go_simp; try (with_reducible rfl)
              try simp only [Act.put, List.getElem_toArray, List.getElem_cons_succ, List.getElem_cons_zero, List.setIfInBounds_toArray, List.set_cons_zero, List.set_cons_succ]
              refine wpAnyH_take (i := 10) (v := ?_) rfl (by kernel_rfl) (by kernel_rfl) (by kernel_rfl) (fun _ _ _ h => h) (Or.inl ⟨by rfl, ?_⟩) hHeld ?_
              rotate_left
              · intro w' hSw; try dsimp only at hSw
                go_simp; try (with_reducible rfl)
              try simp only [Act.put, List.getElem_toArray, List.getElem_cons_succ, List.getElem_cons_zero, List.setIfInBounds_toArray, List.set_cons_zero, List.set_cons_succ]
              refine wpAnyH_done (by kernel_rfl) ?_ _
              refine NoPanic.normal ?_
              go_wp2_with fail
              go_roundw
              case rel => exact ⟨dn, k + 1, lv7, V', _, _, by omega, by omega, rfl, by go_num, (D7.below ((Below.refl _ _).drew)), (R7.below ((Below.refl _ _).drew)), hP, G7, hFR, hB7.drew⟩
              case measure => simp [intOf]; omega
            · have hM := hP.no_on hno hon (cyc B' 256)
              rw [hM.1]
              rw [hM.2] at D7
              have hdc : ¬ (dn : Int) < (cut : Int) := by omega
              refine wp_region_noPanic ?_
              refine wp_region_held_drew (S := fun X => Blk X wr.heap.size 33 [.int .i64 xd, .int .i64 xs, .slice q xm xc, .bool false]) (by kernel_rfl) g7.drew (fun hHeld => ?_)
              refine wpAnyH_take (i := 0) (v := ?_) rfl (by kernel_rfl) (by kernel_rfl) (by kernel_rfl) (fun _ _ _ h => h) (Or.inl ⟨by rfl, ?_⟩) hHeld ?_
              rotate_left
              · intro w' hSw; try dsimp only at hSw
                have l0 := hSw.cell' (i := 0) (v := .int .i64 xd) rfl
                have l1 := hSw.cell' (i := 1) (v := .int .i64 xs) rfl
                have l2 := hSw.cell' (i := 2) (v := .slice q xm xc) rfl
                have l3 := hSw.cell' (i := 3) (v := .bool false) rfl
                go_simp; try (with_reducible rfl)
              try simp only [Act.put, List.getElem_toArray, List.getElem_cons_succ, List.getElem_cons_zero, List.setIfInBounds_toArray, List.set_cons_zero, List.set_cons_succ]
              refine wpAnyH_take (i := 1) (v := ?_) rfl (by kernel_rfl) (by kernel_rfl) (by kernel_rfl) (fun _ _ _ h => h) (Or.inl ⟨by rfl, ?_⟩) hHeld ?_
              rotate_left
              · intro w' hSw; try dsimp only at hSw
                have l0 := hSw.cell' (i := 0) (v := .int .i64 xd) rfl
                have l1 := hSw.cell' (i := 1) (v := .int .i64 xs) rfl
                have l2 := hSw.cell' (i := 2) (v := .slice q xm xc) rfl
                have l3 := hSw.cell' (i := 3) (v := .bool false) rfl
                go_simp; try (with_reducible rfl)
              try simp only [Act.put, List.getElem_toArray, List.getElem_cons_succ, List.getElem_cons_zero, List.setIfInBounds_toArray, List.set_cons_zero, List.set_cons_succ]
              refine wpAnyH_take (i := 2) (v := ?_) rfl (by kernel_rfl) (by kernel_rfl) (by kernel_rfl) (fun _ _ _ h => h) (Or.inl ⟨by rfl, ?_⟩) hHeld ?_
              rotate_left
              · intro w' hSw; try dsimp only at hSw
                have l0 := hSw.cell' (i := 0) (v := .int .i64 xd) rfl
                have l1 := hSw.cell' (i := 1) (v := .int .i64 xs) rfl
                have l2 := hSw.cell' (i := 2) (v := .slice q xm xc) rfl
                have l3 := hSw.cell' (i := 3) (v := .bool false) rfl
                go_simp; try (with_reducible rfl)
              try simp only [Act.put, List.getElem_toArray, List.getElem_cons_succ, List.getElem_cons_zero, List.setIfInBounds_toArray, List.set_cons_zero, List.set_cons_succ]
              refine wpAnyH_take (i := 3) (v := ?_) rfl (by kernel_rfl) (by kernel_rfl) (by kernel_rfl) (fun _ _ _ h => h) (Or.inl ⟨by rfl, ?_⟩) hHeld ?_
              rotate_left
              · intro w' hSw; try dsimp only at hSw
                have l0 := hSw.cell' (i := 0) (v := .int .i64 xd) rfl
                have l1 := hSw.cell' (i := 1) (v := .int .i64 xs) rfl
                have l2 := hSw.cell' (i := 2) (v := .slice q xm xc) rfl
                have l3 := hSw.cell' (i := 3) (v := .bool false) rfl
                go_simp; try (with_reducible rfl)
              try simp only [Act.put, List.getElem_toArray, List.getElem_cons_succ, List.getElem_cons_zero, List.setIfInBounds_toArray, List.set_cons_zero, List.set_cons_succ]
              refine wpAnyH_take (i := 4) (v := undef) rfl (by kernel_rfl) (by kernel_rfl) (by kernel_rfl) (fun _ _ _ h => h) (Or.inr ⟨by rfl, rfl⟩) hHeld ?_
              try simp only [Act.put, List.getElem_toArray, List.getElem_cons_succ, List.getElem_cons_zero, List.setIfInBounds_toArray, List.set_cons_zero, List.set_cons_succ]
              refine wpAnyH_take (i := 5) (v := undef) rfl (by kernel_rfl) (by kernel_rfl) (by kernel_rfl) (fun _ _ _ h => h) (Or.inr ⟨by rfl, rfl⟩) hHeld ?_
              try simp only [Act.put, List.getElem_toArray, List.getElem_cons_succ, List.getElem_cons_zero, List.setIfInBounds_toArray, List.set_cons_zero, List.set_cons_succ]
              refine wpAnyH_take (i := 6) (v := undef) rfl (by kernel_rfl) (by kernel_rfl) (by kernel_rfl) (fun _ _ _ h => h) (Or.inr ⟨by rfl, rfl⟩) hHeld ?_
              try simp only [Act.put, List.getElem_toArray, List.getElem_cons_succ, List.getElem_cons_zero, List.setIfInBounds_toArray, List.set_cons_zero, List.set_cons_succ]
              refine wpAnyH_take (i := 7) (v := undef) rfl (by kernel_rfl) (by kernel_rfl) (by kernel_rfl) (fun _ _ _ h => h) (Or.inr ⟨by rfl, rfl⟩) hHeld ?_
              try simp only [Act.put, List.getElem_toArray, List.getElem_cons_succ, List.getElem_cons_zero, List.setIfInBounds_toArray, List.set_cons_zero, List.set_cons_succ]
              refine wpAnyH_take (i := 8) (v := undef) rfl (by kernel_rfl) (by kernel_rfl) (by kernel_rfl) (fun _ _ _ h => h) (Or.inr ⟨by rfl, rfl⟩) hHeld ?_
              try simp only [Act.put, List.getElem_toArray, List.getElem_cons_succ, List.getElem_cons_zero, List.setIfInBounds_toArray, List.set_cons_zero, List.set_cons_succ]
              refine wpAnyH_take (i := 9) (v := ?_) rfl (by kernel_rfl) (by kernel_rfl) (by kernel_rfl) (fun _ _ _ h => h) (Or.inl ⟨by rfl, ?_⟩) hHeld ?_
              rotate_left
              · intro w' hSw; try dsimp only at hSw
                go_simp; try (with_reducible rfl)
              try simp only [Act.put, List.getElem_toArray, List.getElem_cons_succ, List.getElem_cons_zero, List.setIfInBounds_toArray, List.set_cons_zero, List.set_cons_succ]
              refine wpAnyH_take (i := 10) (v := ?_) rfl (by kernel_rfl) (by kernel_rfl) (by kernel_rfl) (fun _ _ _ h => h) (Or.inl ⟨by rfl, ?_⟩) hHeld ?_
              rotate_left
              · intro w' hSw; try dsimp only at hSw
                go_simp; try (with_reducible rfl)
              try simp only [Act.put, List.getElem_toArray, List.getElem_cons_succ, List.getElem_cons_zero, List.setIfInBounds_toArray, List.set_cons_zero, List.set_cons_succ]
              refine wpAnyH_done (by kernel_rfl) ?_ _
              refine NoPanic.normal ?_
              have hOn := on_any (D7.below ((Below.refl _ _).drew))
              rw [hon] at hOn
              go_wp2_with (go_at_call 11; refine hOn.mono ?_; rintro e w' ⟨rfl, hw'⟩; have hw2 := hw'.symm; subst hw2; clear hw')
              go_roundw
              case rel => exact ⟨dn, k + 1, lv7, V', _, _, by omega, by omega, rfl, by go_num, (D7.below ((Below.refl _ _).drew)), (R7.below ((Below.refl _ _).drew)), hP, G7, hFR, hB7.drew⟩
              case measure => simp [intOf]; omega
        · by_cases hin' : xs < ((N + 1 : Nat) : Int)
          · obtain ⟨kk, rfl⟩ : ∃ kk : Nat, xs = (kk : Int) := ⟨xs.toNat, by omega⟩
            have hkk : kk < N + 1 := by omega
            have hge : (0 : Int) ≤ (kk : Int) := by omega
            have hlt' : (kk : Int) < (N : Int) + 1 := by omega
            have hltb : decide ((kk : Int) < (N : Int) + 1) = true := by simp; omega
            by_cases hd : dn < cut
            · have hdc : (dn : Int) < (cut : Int) := by omega
              have hM := hP.more hkk hd hZ
              rw [hM.2.1]
              refine wp_region_noPanic ?_
              refine wp_region_held_drew (S := fun X => Blk X wr.heap.size 33 [.int .i64 xd, .int .i64 (kk : Int), .slice q xm xc, .bool false]) (by kernel_rfl) g7.drew (fun hHeld => ?_)
              refine wpAnyH_take (i := 0) (v := ?_) rfl (by kernel_rfl) (by kernel_rfl) (by kernel_rfl) (fun _ _ _ h => h) (Or.inl ⟨by rfl, ?_⟩) hHeld ?_
              rotate_left
              · intro w' hSw; try dsimp only at hSw
                have l0 := hSw.cell' (i := 0) (v := .int .i64 xd) rfl
                have l1 := hSw.cell' (i := 1) (v := .int .i64 (kk : Int)) rfl
                have l2 := hSw.cell' (i := 2) (v := .slice q xm xc) rfl
                have l3 := hSw.cell' (i := 3) (v := .bool false) rfl
                go_simp; try (with_reducible rfl)
              try simp only [Act.put, List.getElem_toArray, List.getElem_cons_succ, List.getElem_cons_zero, List.setIfInBounds_toArray, List.set_cons_zero, List.set_cons_succ]
              refine wpAnyH_take (i := 1) (v := ?_) rfl (by kernel_rfl) (by kernel_rfl) (by kernel_rfl) (fun _ _ _ h => h) (Or.inl ⟨by rfl, ?_⟩) hHeld ?_
              rotate_left
              · intro w' hSw; try dsimp only at hSw
                have l0 := hSw.cell' (i := 0) (v := .int .i64 xd) rfl
                have l1 := hSw.cell' (i := 1) (v := .int .i64 (kk : Int)) rfl
                have l2 := hSw.cell' (i := 2) (v := .slice q xm xc) rfl
                have l3 := hSw.cell' (i := 3) (v := .bool false) rfl
                go_simp; try (with_reducible rfl)
              try simp only [Act.put, List.getElem_toArray, List.getElem_cons_succ, List.getElem_cons_zero, List.setIfInBounds_toArray, List.set_cons_zero, List.set_cons_succ]
              refine wpAnyH_take (i := 2) (v := ?_) rfl (by kernel_rfl) (by kernel_rfl) (by kernel_rfl) (fun _ _ _ h => h) (Or.inl ⟨by rfl, ?_⟩) hHeld ?_
              rotate_left
              · intro w' hSw; try dsimp only at hSw
                have l0 := hSw.cell' (i := 0) (v := .int .i64 xd) rfl
                have l1 := hSw.cell' (i := 1) (v := .int .i64 (kk : Int)) rfl
                have l2 := hSw.cell' (i := 2) (v := .slice q xm xc) rfl
                have l3 := hSw.cell' (i := 3) (v := .bool false) rfl
                go_simp; try (with_reducible rfl)
              try simp only [Act.put, List.getElem_toArray, List.getElem_cons_succ, List.getElem_cons_zero, List.setIfInBounds_toArray, List.set_cons_zero, List.set_cons_succ]
              refine wpAnyH_take (i := 3) (v := ?_) rfl (by kernel_rfl) (by kernel_rfl) (by kernel_rfl) (fun _ _ _ h => h) (Or.inl ⟨by rfl, ?_⟩) hHeld ?_
              rotate_left
              · intro w' hSw; try dsimp only at hSw
                have l0 := hSw.cell' (i := 0) (v := .int .i64 xd) rfl
                have l1 := hSw.cell' (i := 1) (v := .int .i64 (kk : Int)) rfl
                have l2 := hSw.cell' (i := 2) (v := .slice q xm xc) rfl
                have l3 := hSw.cell' (i := 3) (v := .bool false) rfl
                go_simp; try (with_reducible rfl)
              try simp only [Act.put, List.getElem_toArray, List.getElem_cons_succ, List.getElem_cons_zero, List.setIfInBounds_toArray, List.set_cons_zero, List.set_cons_succ]
              refine wpAnyH_take (i := 4) (v := ?_) rfl (by kernel_rfl) (by kernel_rfl) (by kernel_rfl) (fun _ _ _ h => h) (Or.inl ⟨by rfl, ?_⟩) hHeld ?_
              rotate_left
              · intro w' hSw; try dsimp only at hSw
                have l0 := hSw.cell' (i := 0) (v := .int .i64 xd) rfl
                have l1 := hSw.cell' (i := 1) (v := .int .i64 (kk : Int)) rfl
                have l2 := hSw.cell' (i := 2) (v := .slice q xm xc) rfl
                have l3 := hSw.cell' (i := 3) (v := .bool false) rfl
                go_simp; try (with_reducible rfl)
              try simp only [Act.put, List.getElem_toArray, List.getElem_cons_succ, List.getElem_cons_zero, List.setIfInBounds_toArray, List.set_cons_zero, List.set_cons_succ]
              refine wpAnyH_take (i := 5) (v := ?_) rfl (by kernel_rfl) (by kernel_rfl) (by kernel_rfl) (fun _ _ _ h => h) (Or.inl ⟨by rfl, ?_⟩) hHeld ?_
              rotate_left
              · intro w' hSw; try dsimp only at hSw
                have l0 := hSw.cell' (i := 0) (v := .int .i64 xd) rfl
                have l1 := hSw.cell' (i := 1) (v := .int .i64 (kk : Int)) rfl
                have l2 := hSw.cell' (i := 2) (v := .slice q xm xc) rfl
                have l3 := hSw.cell' (i := 3) (v := .bool false) rfl
                go_simp; try (with_reducible rfl)
              try simp only [Act.put, List.getElem_toArray, List.getElem_cons_succ, List.getElem_cons_zero, List.setIfInBounds_toArray, List.set_cons_zero, List.set_cons_succ]
              refine wpAnyH_take (i := 6) (v := ?_) rfl (by kernel_rfl) (by kernel_rfl) (by kernel_rfl) (fun _ _ _ h => h) (Or.inl ⟨by rfl, ?_⟩) hHeld ?_
              rotate_left
              · intro w' hSw; try dsimp only at hSw
                have l0 := hSw.cell' (i := 0) (v := .int .i64 xd) rfl
                have l1 := hSw.cell' (i := 1) (v := .int .i64 (kk : Int)) rfl
                have l2 := hSw.cell' (i := 2) (v := .slice q xm xc) rfl
                have l3 := hSw.cell' (i := 3) (v := .bool false) rfl
                go_simp; try (with_reducible rfl)
              try simp only [Act.put, List.getElem_toArray, List.getElem_cons_succ, List.getElem_cons_zero, List.setIfInBounds_toArray, List.set_cons_zero, List.set_cons_succ]
              refine wpAnyH_ready (rs := [7]) (by kernel_rfl) (by simp) ?_
              refine AllReadyH.cons rfl (fun K hK => ?_) AllReadyH.nil
              go_simp
              refine (rsize_any (R7.below ((Below.refl _ _).drew))).mono ?_
              rw [hP.tlen]
              rintro e w' ⟨rfl, hw'⟩
              have hw2 := hw'.symm
              subst hw2
              clear hw'
              try go_wp2_with fail
              refine hK.out _ _ hHeld (fun hHeld => ?_)
              clear hK K
              try simp only [Act.put, List.getElem_toArray, List.getElem_cons_succ, List.getElem_cons_zero, List.setIfInBounds_toArray, List.set_cons_zero, List.set_cons_succ]
              refine wpAnyH_take (i := 8) (v := ?_) rfl (by kernel_rfl) (by kernel_rfl) (by kernel_rfl) (fun _ _ _ h => h) (Or.inl ⟨by rfl, ?_⟩) hHeld ?_
              rotate_left
              · intro w' hSw; try dsimp only at hSw
                go_simp; try (with_reducible rfl)
              try simp only [Act.put, List.getElem_toArray, List.getElem_cons_succ, List.getElem_cons_zero, List.setIfInBounds_toArray, List.set_cons_zero, List.set_cons_succ]
              refine wpAnyH_take (i := 9) (v := ?_) rfl (by kernel_rfl) (by kernel_rfl) (by kernel_rfl) (fun _ _ _ h => h) (Or.inl ⟨by rfl, ?_⟩) hHeld ?_
              rotate_left
              · intro w' hSw; try dsimp only at hSw
                go_simp; try (with_reducible rfl)
              try simp only [Act.put, List.getElem_toArray, List.getElem_cons_succ, List.getElem_cons_zero, List.setIfInBounds_toArray, List.set_cons_zero, List.set_cons_succ]
              refine wpAnyH_take (i := 10) (v := ?_) rfl (by kernel_rfl) (by kernel_rfl) (by kernel_rfl) (fun _ _ _ h => h) (Or.inl ⟨by rfl, ?_⟩) hHeld ?_
              rotate_left
              · intro w' hSw; try dsimp only at hSw
                go_simp; try (with_reducible rfl)
              try simp only [Act.put, List.getElem_toArray, List.getElem_cons_succ, List.getElem_cons_zero, List.setIfInBounds_toArray, List.set_cons_zero, List.set_cons_succ]
              refine wpAnyH_done (by kernel_rfl) ?_ _
              refine NoPanic.normal ?_
              go_wp2_with fail
              have bq2 : Below w7.heap.size w7 w7.drew.drew := ((Below.refl _ _).drew).drew
              refine wp_region_noPanic ?_
              refine wp_region_held_drew (S := fun X => Blk X wr.heap.size 33 [.int .i64 xd, .int .i64 (kk : Int), .slice q xm xc, .bool false]) (by kernel_rfl) g7.drew.drew (fun hHeld => ?_)
              refine wpAnyH_take (i := 0) (v := ?_) rfl (by kernel_rfl) (by kernel_rfl) (by kernel_rfl) (fun _ _ _ h => h) (Or.inl ⟨by rfl, ?_⟩) hHeld ?_
              rotate_left
              · intro w' hSw; try dsimp only at hSw
                go_simp; try (with_reducible rfl)
              try simp only [Act.put, List.getElem_toArray, List.getElem_cons_succ, List.getElem_cons_zero, List.setIfInBounds_toArray, List.set_cons_zero, List.set_cons_succ]
              refine wpAnyH_take (i := 1) (v := ?_) rfl (by kernel_rfl) (by kernel_rfl) (by kernel_rfl) (fun _ _ _ h => h) (Or.inl ⟨by rfl, ?_⟩) hHeld ?_
              rotate_left
              · intro w' hSw; try dsimp only at hSw
                go_simp; try (with_reducible rfl)
              try simp only [Act.put, List.getElem_toArray, List.getElem_cons_succ, List.getElem_cons_zero, List.setIfInBounds_toArray, List.set_cons_zero, List.set_cons_succ]
              refine wpAnyH_take (i := 2) (v := ?_) rfl (by kernel_rfl) (by kernel_rfl) (by kernel_rfl) (fun _ _ _ h => h) (Or.inl ⟨by rfl, ?_⟩) hHeld ?_
              rotate_left
              · intro w' hSw; try dsimp only at hSw
                go_simp; try (with_reducible rfl)
              try simp only [Act.put, List.getElem_toArray, List.getElem_cons_succ, List.getElem_cons_zero, List.setIfInBounds_toArray, List.set_cons_zero, List.set_cons_succ]
              refine wpAnyH_take (i := 3) (v := ?_) rfl (by kernel_rfl) (by kernel_rfl) (by kernel_rfl) (fun _ _ _ h => h) (Or.inl ⟨by rfl, ?_⟩) hHeld ?_
              rotate_left
              · intro w' hSw; try dsimp only at hSw
                have l0 := hSw.cell' (i := 0) (v := .int .i64 xd) rfl
                have l1 := hSw.cell' (i := 1) (v := .int .i64 (kk : Int)) rfl
                have l2 := hSw.cell' (i := 2) (v := .slice q xm xc) rfl
                have l3 := hSw.cell' (i := 3) (v := .bool false) rfl
                go_simp; try (with_reducible rfl)
              try simp only [Act.put, List.getElem_toArray, List.getElem_cons_succ, List.getElem_cons_zero, List.setIfInBounds_toArray, List.set_cons_zero, List.set_cons_succ]
              refine wpAnyH_take (i := 4) (v := ?_) rfl (by kernel_rfl) (by kernel_rfl) (by kernel_rfl) (fun _ _ _ h => h) (Or.inl ⟨by rfl, ?_⟩) hHeld ?_
              rotate_left
              · intro w' hSw; try dsimp only at hSw
                have l0 := hSw.cell' (i := 0) (v := .int .i64 xd) rfl
                have l1 := hSw.cell' (i := 1) (v := .int .i64 (kk : Int)) rfl
                have l2 := hSw.cell' (i := 2) (v := .slice q xm xc) rfl
                have l3 := hSw.cell' (i := 3) (v := .bool false) rfl
                go_simp; try (with_reducible rfl)
              try simp only [Act.put, List.getElem_toArray, List.getElem_cons_succ, List.getElem_cons_zero, List.setIfInBounds_toArray, List.set_cons_zero, List.set_cons_succ]
              refine wpAnyH_take (i := 5) (v := ?_) rfl (by kernel_rfl) (by kernel_rfl) (by kernel_rfl) (fun _ _ _ h => h) (Or.inl ⟨by rfl, ?_⟩) hHeld ?_
              rotate_left
              · intro w' hSw; try dsimp only at hSw
                have l0 := hSw.cell' (i := 0) (v := .int .i64 xd) rfl
                have l1 := hSw.cell' (i := 1) (v := .int .i64 (kk : Int)) rfl
                have l2 := hSw.cell' (i := 2) (v := .slice q xm xc) rfl
                have l3 := hSw.cell' (i := 3) (v := .bool false) rfl
                go_simp; try (with_reducible rfl)
              try simp only [Act.put, List.getElem_toArray, List.getElem_cons_succ, List.getElem_cons_zero, List.setIfInBounds_toArray, List.set_cons_zero, List.set_cons_succ]
              refine wpAnyH_take (i := 6) (v := ?_) rfl (by kernel_rfl) (by kernel_rfl) (by kernel_rfl) (fun _ _ _ h => h) (Or.inl ⟨by rfl, ?_⟩) hHeld ?_
              rotate_left
              · intro w' hSw; try dsimp only at hSw
                have l0 := hSw.cell' (i := 0) (v := .int .i64 xd) rfl
                have l1 := hSw.cell' (i := 1) (v := .int .i64 (kk : Int)) rfl
                have l2 := hSw.cell' (i := 2) (v := .slice q xm xc) rfl
                have l3 := hSw.cell' (i := 3) (v := .bool false) rfl
                go_simp; try (with_reducible rfl)
              try simp only [Act.put, List.getElem_toArray, List.getElem_cons_succ, List.getElem_cons_zero, List.setIfInBounds_toArray, List.set_cons_zero, List.set_cons_succ]
              refine wpAnyH_ready (rs := [7]) (by kernel_rfl) (by simp) ?_
              refine AllReadyH.cons rfl (fun K hK => ?_) AllReadyH.nil
              go_simp
              refine (full_any xd (kk : Int) q xm xc false B' _ (hin7.below bq2)).mono ?_
              rintro e w8 ⟨p8, n8, c8, rfl, hin8, hb8, hq8⟩
              try go_wp2_with fail
              refine hK.out _ _ (g7.drew.drew.kept hb8) (fun hHeld => ?_)
              clear hK K
              try simp only [Act.put, List.getElem_toArray, List.getElem_cons_succ, List.getElem_cons_zero, List.setIfInBounds_toArray, List.set_cons_zero, List.set_cons_succ]
              have hn8 : n8 = 256 := by have := hin8.len; rw [HZ.out] at this; rw [cyc_length] at this; omega
              subst hn8
              rw [HZ.out] at hin8
              have b8 : Below w7.heap.size w7 w8 := bq2.trans (hb8.mono (Nat.le_refl _))
              have R8 := R7.below b8
              refine wpAnyH_ready (rs := [8]) (by kernel_rfl) (by simp) ?_
              refine AllReadyH.cons rfl (fun K hK => ?_) AllReadyH.nil
              go_simp
              refine (rwrite_any R8 (kk : Int) p8 256 c8 (cyc B' 256) hin8 (fun a ha => ?hnp) (by have := hP.m; omega) (by have := hP.wl; omega)).mono ?_
              case hnp =>
                rcases hq8 with e | e
                · subst e; exact hqR a ha
                · intro hf; have h1 := e a ha; have h2 := R7.lt hf; have h3 : w7.drew.drew.heap.size = w7.heap.size := rfl; omega
              rintro e w9 ⟨rfl, V9, A9⟩
              rw [hM.2.2.1]
              try go_wp2_with fail
              refine hK.out _ _ ((g7.kept b8).keep A9.keep (fun e => by have h1 := hR.lt e; omega)) (fun hHeld => ?_)
              clear hK K
              try simp only [Act.put, List.getElem_toArray, List.getElem_cons_succ, List.getElem_cons_zero, List.setIfInBounds_toArray, List.set_cons_zero, List.set_cons_succ]
              refine wpAnyH_take (i := 9) (v := ?_) rfl (by kernel_rfl) (by kernel_rfl) (by kernel_rfl) (fun _ _ _ h => h) (Or.inl ⟨by rfl, ?_⟩) hHeld ?_
              rotate_left
              · intro w' hSw; try dsimp only at hSw
                go_simp; try (with_reducible rfl)
              try simp only [Act.put, List.getElem_toArray, List.getElem_cons_succ, List.getElem_cons_zero, List.setIfInBounds_toArray, List.set_cons_zero, List.set_cons_succ]
              refine wpAnyH_take (i := 10) (v := ?_) rfl (by kernel_rfl) (by kernel_rfl) (by kernel_rfl) (fun _ _ _ h => h) (Or.inl ⟨by rfl, ?_⟩) hHeld ?_
              rotate_left
              · intro w' hSw; try dsimp only at hSw
                go_simp; try (with_reducible rfl)
              try simp only [Act.put, List.getElem_toArray, List.getElem_cons_succ, List.getElem_cons_zero, List.setIfInBounds_toArray, List.set_cons_zero, List.set_cons_succ]
              refine wpAnyH_done (by kernel_rfl) ?_ _
              refine NoPanic.normal ?_
              go_wp2_with fail
              have D9 := (D7.below b8).keepR R8 A9.keep
              have hB8 : Below w.heap.size w w8 := bt hB7 b8
              have hf9 : ∀ j, fpR r V9 j → w.heap.size ≤ j := fun j hj => (A9.fr j hj).elim (hFR j) (fun e => Nat.le_trans hB8.size e)
              go_roundw
              case rel => exact ⟨dn + 1, k + 1, lv7, V9, _, _, by omega, by omega, by go_num, by go_num, D9, A9.ref, hM.2.2.2, G7, hf9, (hB8.trans (A9.keep.below hB8.size hFR))⟩
              case measure => simp [intOf]; omega
            · have hdc : ¬ (dn : Int) < (cut : Int) := by omega
              have hM := hP.last hkk hd hZ
              rw [hM.1]
              refine wp_region_noPanic ?_
              refine wp_region_held_drew (S := fun X => Blk X wr.heap.size 33 [.int .i64 xd, .int .i64 (kk : Int), .slice q xm xc, .bool false]) (by kernel_rfl) g7.drew (fun hHeld => ?_)
              refine wpAnyH_take (i := 0) (v := ?_) rfl (by kernel_rfl) (by kernel_rfl) (by kernel_rfl) (fun _ _ _ h => h) (Or.inl ⟨by rfl, ?_⟩) hHeld ?_
              rotate_left
              · intro w' hSw; try dsimp only at hSw
                have l0 := hSw.cell' (i := 0) (v := .int .i64 xd) rfl
                have l1 := hSw.cell' (i := 1) (v := .int .i64 (kk : Int)) rfl
                have l2 := hSw.cell' (i := 2) (v := .slice q xm xc) rfl
                have l3 := hSw.cell' (i := 3) (v := .bool false) rfl
                go_simp; try (with_reducible rfl)
              try simp only [Act.put, List.getElem_toArray, List.getElem_cons_succ, List.getElem_cons_zero, List.setIfInBounds_toArray, List.set_cons_zero, List.set_cons_succ]
              refine wpAnyH_take (i := 1) (v := ?_) rfl (by kernel_rfl) (by kernel_rfl) (by kernel_rfl) (fun _ _ _ h => h) (Or.inl ⟨by rfl, ?_⟩) hHeld ?_
              rotate_left
              · intro w' hSw; try dsimp only at hSw
                have l0 := hSw.cell' (i := 0) (v := .int .i64 xd) rfl
                have l1 := hSw.cell' (i := 1) (v := .int .i64 (kk : Int)) rfl
                have l2 := hSw.cell' (i := 2) (v := .slice q xm xc) rfl
                have l3 := hSw.cell' (i := 3) (v := .bool false) rfl
                go_simp; try (with_reducible rfl)
              try simp only [Act.put, List.getElem_toArray, List.getElem_cons_succ, List.getElem_cons_zero, List.setIfInBounds_toArray, List.set_cons_zero, List.set_cons_succ]
              refine wpAnyH_take (i := 2) (v := ?_) rfl (by kernel_rfl) (by kernel_rfl) (by kernel_rfl) (fun _ _ _ h => h) (Or.inl ⟨by rfl, ?_⟩) hHeld ?_
              rotate_left
              · intro w' hSw; try dsimp only at hSw
                have l0 := hSw.cell' (i := 0) (v := .int .i64 xd) rfl
                have l1 := hSw.cell' (i := 1) (v := .int .i64 (kk : Int)) rfl
                have l2 := hSw.cell' (i := 2) (v := .slice q xm xc) rfl
                have l3 := hSw.cell' (i := 3) (v := .bool false) rfl
                go_simp; try (with_reducible rfl)
              try simp only [Act.put, List.getElem_toArray, List.getElem_cons_succ, List.getElem_cons_zero, List.setIfInBounds_toArray, List.set_cons_zero, List.set_cons_succ]
              refine wpAnyH_take (i := 3) (v := ?_) rfl (by kernel_rfl) (by kernel_rfl) (by kernel_rfl) (fun _ _ _ h => h) (Or.inl ⟨by rfl, ?_⟩) hHeld ?_
              rotate_left
              · intro w' hSw; try dsimp only at hSw
                have l0 := hSw.cell' (i := 0) (v := .int .i64 xd) rfl
                have l1 := hSw.cell' (i := 1) (v := .int .i64 (kk : Int)) rfl
                have l2 := hSw.cell' (i := 2) (v := .slice q xm xc) rfl
                have l3 := hSw.cell' (i := 3) (v := .bool false) rfl
                go_simp; try (with_reducible rfl)
              try simp only [Act.put, List.getElem_toArray, List.getElem_cons_succ, List.getElem_cons_zero, List.setIfInBounds_toArray, List.set_cons_zero, List.set_cons_succ]
              refine wpAnyH_take (i := 4) (v := ?_) rfl (by kernel_rfl) (by kernel_rfl) (by kernel_rfl) (fun _ _ _ h => h) (Or.inl ⟨by rfl, ?_⟩) hHeld ?_
              rotate_left
              · intro w' hSw; try dsimp only at hSw
                have l0 := hSw.cell' (i := 0) (v := .int .i64 xd) rfl
                have l1 := hSw.cell' (i := 1) (v := .int .i64 (kk : Int)) rfl
                have l2 := hSw.cell' (i := 2) (v := .slice q xm xc) rfl
                have l3 := hSw.cell' (i := 3) (v := .bool false) rfl
                go_simp; try (with_reducible rfl)
              try simp only [Act.put, List.getElem_toArray, List.getElem_cons_succ, List.getElem_cons_zero, List.setIfInBounds_toArray, List.set_cons_zero, List.set_cons_succ]
              refine wpAnyH_take (i := 5) (v := ?_) rfl (by kernel_rfl) (by kernel_rfl) (by kernel_rfl) (fun _ _ _ h => h) (Or.inl ⟨by rfl, ?_⟩) hHeld ?_
              rotate_left
              · intro w' hSw; try dsimp only at hSw
                have l0 := hSw.cell' (i := 0) (v := .int .i64 xd) rfl
                have l1 := hSw.cell' (i := 1) (v := .int .i64 (kk : Int)) rfl
                have l2 := hSw.cell' (i := 2) (v := .slice q xm xc) rfl
                have l3 := hSw.cell' (i := 3) (v := .bool false) rfl
                go_simp; try (with_reducible rfl)
              try simp only [Act.put, List.getElem_toArray, List.getElem_cons_succ, List.getElem_cons_zero, List.setIfInBounds_toArray, List.set_cons_zero, List.set_cons_succ]
              refine wpAnyH_take (i := 6) (v := ?_) rfl (by kernel_rfl) (by kernel_rfl) (by kernel_rfl) (fun _ _ _ h => h) (Or.inl ⟨by rfl, ?_⟩) hHeld ?_
              rotate_left
              · intro w' hSw; try dsimp only at hSw
                have l0 := hSw.cell' (i := 0) (v := .int .i64 xd) rfl
                have l1 := hSw.cell' (i := 1) (v := .int .i64 (kk : Int)) rfl
                have l2 := hSw.cell' (i := 2) (v := .slice q xm xc) rfl
                have l3 := hSw.cell' (i := 3) (v := .bool false) rfl
                go_simp; try (with_reducible rfl)
              try simp only [Act.put, List.getElem_toArray, List.getElem_cons_succ, List.getElem_cons_zero, List.setIfInBounds_toArray, List.set_cons_zero, List.set_cons_succ]
              refine wpAnyH_ready (rs := [7]) (by kernel_rfl) (by simp) ?_
              refine AllReadyH.cons rfl (fun K hK => ?_) AllReadyH.nil
              go_simp
              refine (rsize_any (R7.below ((Below.refl _ _).drew))).mono ?_
              rw [hP.tlen]
              rintro e w' ⟨rfl, hw'⟩
              have hw2 := hw'.symm
              subst hw2
              clear hw'
              try go_wp2_with fail
              refine hK.out _ _ hHeld (fun hHeld => ?_)
              clear hK K
              try simp only [Act.put, List.getElem_toArray, List.getElem_cons_succ, List.getElem_cons_zero, List.setIfInBounds_toArray, List.set_cons_zero, List.set_cons_succ]
              refine wpAnyH_take (i := 8) (v := ?_) rfl (by kernel_rfl) (by kernel_rfl) (by kernel_rfl) (fun _ _ _ h => h) (Or.inl ⟨by rfl, ?_⟩) hHeld ?_
              rotate_left
              · intro w' hSw; try dsimp only at hSw
                go_simp; try (with_reducible rfl)
              try simp only [Act.put, List.getElem_toArray, List.getElem_cons_succ, List.getElem_cons_zero, List.setIfInBounds_toArray, List.set_cons_zero, List.set_cons_succ]
              refine wpAnyH_take (i := 9) (v := ?_) rfl (by kernel_rfl) (by kernel_rfl) (by kernel_rfl) (fun _ _ _ h => h) (Or.inl ⟨by rfl, ?_⟩) hHeld ?_
              rotate_left
              · intro w' hSw; try dsimp only at hSw
                go_simp; try (with_reducible rfl)
              try simp only [Act.put, List.getElem_toArray, List.getElem_cons_succ, List.getElem_cons_zero, List.setIfInBounds_toArray, List.set_cons_zero, List.set_cons_succ]
              refine wpAnyH_take (i := 10) (v := ?_) rfl (by kernel_rfl) (by kernel_rfl) (by kernel_rfl) (fun _ _ _ h => h) (Or.inl ⟨by rfl, ?_⟩) hHeld ?_
              rotate_left
              · intro w' hSw; try dsimp only at hSw
                go_simp; try (with_reducible rfl)
              try simp only [Act.put, List.getElem_toArray, List.getElem_cons_succ, List.getElem_cons_zero, List.setIfInBounds_toArray, List.set_cons_zero, List.set_cons_succ]
              refine wpAnyH_done (by kernel_rfl) ?_ _
              refine NoPanic.normal ?_
              go_wp2_with fail
              go_roundw
              case rel => exact ⟨dn, k + 1, lv7, V', _, _, by omega, by omega, rfl, by go_num, (D7.below ((Below.refl _ _).drew)), (R7.below ((Below.refl _ _).drew)), hM.2, G7, hFR, hB7.drew⟩
              case measure => simp [intOf]; omega
          · have hno : hasB (N + 1) xs = false := by simp [hasB]; omega
            have hge : 0 ≤ xs := by omega
            have hnlb : decide (xs < (N : Int) + 1) = false := by simp; omega
            have hnl : ¬ xs < (N : Int) + 1 := by omega
            cases hon : s.on
            · have hdc : ¬ (dn : Int) < (cut : Int) := by have := hP.off hon; omega
              have hM := PRel.no_off (i := xs) hon (cyc B' 256)
              rw [hM.1]
              rw [hM.2] at D7
              refine wp_region_noPanic ?_
              refine wp_region_held_drew (S := fun X => Blk X wr.heap.size 33 [.int .i64 xd, .int .i64 xs, .slice q xm xc, .bool false]) (by kernel_rfl) g7.drew (fun hHeld => ?_)
              refine wpAnyH_take (i := 0) (v := ?_) rfl (by kernel_rfl) (by kernel_rfl) (by kernel_rfl) (fun _ _ _ h => h) (Or.inl ⟨by rfl, ?_⟩) hHeld ?_
              rotate_left
              · intro w' hSw; try dsimp only at hSw
                have l0 := hSw.cell' (i := 0) (v := .int .i64 xd) rfl
                have l1 := hSw.cell' (i := 1) (v := .int .i64 xs) rfl
                have l2 := hSw.cell' (i := 2) (v := .slice q xm xc) rfl
                have l3 := hSw.cell' (i := 3) (v := .bool false) rfl
                go_simp; try (with_reducible rfl)
              try simp only [Act.put, List.getElem_toArray, List.getElem_cons_succ, List.getElem_cons_zero, List.setIfInBounds_toArray, List.set_cons_zero, List.set_cons_succ]
              refine wpAnyH_take (i := 1) (v := ?_) rfl (by kernel_rfl) (by kernel_rfl) (by kernel_rfl) (fun _ _ _ h => h) (Or.inl ⟨by rfl, ?_⟩) hHeld ?_
              rotate_left
              · intro w' hSw; try dsimp only at hSw
                have l0 := hSw.cell' (i := 0) (v := .int .i64 xd) rfl
                have l1 := hSw.cell' (i := 1) (v := .int .i64 xs) rfl
                have l2 := hSw.cell' (i := 2) (v := .slice q xm xc) rfl
                have l3 := hSw.cell' (i := 3) (v := .bool false) rfl
                go_simp; try (with_reducible rfl)
              try simp only [Act.put, List.getElem_toArray, List.getElem_cons_succ, List.getElem_cons_zero, List.setIfInBounds_toArray, List.set_cons_zero, List.set_cons_succ]
              refine wpAnyH_take (i := 2) (v := ?_) rfl (by kernel_rfl) (by kernel_rfl) (by kernel_rfl) (fun _ _ _ h => h) (Or.inl ⟨by rfl, ?_⟩) hHeld ?_
              rotate_left
              · intro w' hSw; try dsimp only at hSw
                have l0 := hSw.cell' (i := 0) (v := .int .i64 xd) rfl
                have l1 := hSw.cell' (i := 1) (v := .int .i64 xs) rfl
                have l2 := hSw.cell' (i := 2) (v := .slice q xm xc) rfl
                have l3 := hSw.cell' (i := 3) (v := .bool false) rfl
                go_simp; try (with_reducible rfl)
              try simp only [Act.put, List.getElem_toArray, List.getElem_cons_succ, List.getElem_cons_zero, List.setIfInBounds_toArray, List.set_cons_zero, List.set_cons_succ]
              refine wpAnyH_take (i := 3) (v := ?_) rfl (by kernel_rfl) (by kernel_rfl) (by kernel_rfl) (fun _ _ _ h => h) (Or.inl ⟨by rfl, ?_⟩) hHeld ?_
              rotate_left
              · intro w' hSw; try dsimp only at hSw
                have l0 := hSw.cell' (i := 0) (v := .int .i64 xd) rfl
                have l1 := hSw.cell' (i := 1) (v := .int .i64 xs) rfl
                have l2 := hSw.cell' (i := 2) (v := .slice q xm xc) rfl
                have l3 := hSw.cell' (i := 3) (v := .bool false) rfl
                go_simp; try (with_reducible rfl)
              try simp only [Act.put, List.getElem_toArray, List.getElem_cons_succ, List.getElem_cons_zero, List.setIfInBounds_toArray, List.set_cons_zero, List.set_cons_succ]
              refine wpAnyH_take (i := 4) (v := ?_) rfl (by kernel_rfl) (by kernel_rfl) (by kernel_rfl) (fun _ _ _ h => h) (Or.inl ⟨by rfl, ?_⟩) hHeld ?_
              rotate_left
              · intro w' hSw; try dsimp only at hSw
                have l0 := hSw.cell' (i := 0) (v := .int .i64 xd) rfl
                have l1 := hSw.cell' (i := 1) (v := .int .i64 xs) rfl
                have l2 := hSw.cell' (i := 2) (v := .slice q xm xc) rfl
                have l3 := hSw.cell' (i := 3) (v := .bool false) rfl
                go_simp; try (with_reducible rfl)
              try simp only [Act.put, List.getElem_toArray, List.getElem_cons_succ, List.getElem_cons_zero, List.setIfInBounds_toArray, List.set_cons_zero, List.set_cons_succ]
              refine wpAnyH_take (i := 5) (v := ?_) rfl (by kernel_rfl) (by kernel_rfl) (by kernel_rfl) (fun _ _ _ h => h) (Or.inl ⟨by rfl, ?_⟩) hHeld ?_
              rotate_left
              · intro w' hSw; try dsimp only at hSw
                have l0 := hSw.cell' (i := 0) (v := .int .i64 xd) rfl
                have l1 := hSw.cell' (i := 1) (v := .int .i64 xs) rfl
                have l2 := hSw.cell' (i := 2) (v := .slice q xm xc) rfl
                have l3 := hSw.cell' (i := 3) (v := .bool false) rfl
                go_simp; try (with_reducible rfl)
              try simp only [Act.put, List.getElem_toArray, List.getElem_cons_succ, List.getElem_cons_zero, List.setIfInBounds_toArray, List.set_cons_zero, List.set_cons_succ]
              refine wpAnyH_take (i := 6) (v := ?_) rfl (by kernel_rfl) (by kernel_rfl) (by kernel_rfl) (fun _ _ _ h => h) (Or.inl ⟨by rfl, ?_⟩) hHeld ?_
              rotate_left
              · intro w' hSw; try dsimp only at hSw
                have l0 := hSw.cell' (i := 0) (v := .int .i64 xd) rfl
                have l1 := hSw.cell' (i := 1) (v := .int .i64 xs) rfl
                have l2 := hSw.cell' (i := 2) (v := .slice q xm xc) rfl
                have l3 := hSw.cell' (i := 3) (v := .bool false) rfl
                go_simp; try (with_reducible rfl)
              try simp only [Act.put, List.getElem_toArray, List.getElem_cons_succ, List.getElem_cons_zero, List.setIfInBounds_toArray, List.set_cons_zero, List.set_cons_succ]
              refine wpAnyH_ready (rs := [7]) (by kernel_rfl) (by simp) ?_
              refine AllReadyH.cons rfl (fun K hK => ?_) AllReadyH.nil
              go_simp
              refine (rsize_any (R7.below ((Below.refl _ _).drew))).mono ?_
              rw [hP.tlen]
              rintro e w' ⟨rfl, hw'⟩
              have hw2 := hw'.symm
              subst hw2
              clear hw'
              try go_wp2_with fail
              refine hK.out _ _ hHeld (fun hHeld => ?_)
              clear hK K
              try simp only [Act.put, List.getElem_toArray, List.getElem_cons_succ, List.getElem_cons_zero, List.setIfInBounds_toArray, List.set_cons_zero, List.set_cons_succ]
              refine wpAnyH_take (i := 8) (v := ?_) rfl (by kernel_rfl) (by kernel_rfl) (by kernel_rfl) (fun _ _ _ h => h) (Or.inl ⟨by rfl, ?_⟩) hHeld ?_
              rotate_left
              · intro w' hSw; try dsimp only at hSw
                go_simp; try (with_reducible rfl)
              try simp only [Act.put, List.getElem_toArray, List.getElem_cons_succ, List.getElem_cons_zero, List.setIfInBounds_toArray, List.set_cons_zero, List.set_cons_succ]
              refine wpAnyH_take (i := 9) (v := ?_) rfl (by kernel_rfl) (by kernel_rfl) (by kernel_rfl) (fun _ _ _ h => h) (Or.inl ⟨by rfl, ?_⟩) hHeld ?_
              rotate_left
              · intro w' hSw; try dsimp only at hSw
                go_simp; try (with_reducible rfl)
              try simp only [Act.put, List.getElem_toArray, List.getElem_cons_succ, List.getElem_cons_zero, List.setIfInBounds_toArray, List.set_cons_zero, List.set_cons_succ]
              refine wpAnyH_take (i := 10) (v := ?_) rfl (by kernel_rfl) (by kernel_rfl) (by kernel_rfl) (fun _ _ _ h => h) (Or.inl ⟨by rfl, ?_⟩) hHeld ?_
              rotate_left
              · intro w' hSw; try dsimp only at hSw
                go_simp; try (with_reducible rfl)
              try simp only [Act.put, List.getElem_toArray, List.getElem_cons_succ, List.getElem_cons_zero, List.setIfInBounds_toArray, List.set_cons_zero, List.set_cons_succ]
              refine wpAnyH_done (by kernel_rfl) ?_ _
              refine NoPanic.normal ?_
              have hOn := on_any (D7.below ((Below.refl _ _).drew))
              rw [hon] at hOn
              go_wp2_with (go_at_call 11; refine hOn.mono ?_; rintro e w' ⟨rfl, hw'⟩; have hw2 := hw'.symm; subst hw2; clear hw')
              go_roundw
              case rel => exact ⟨dn, k + 1, lv7, V', _, _, by omega, by omega, rfl, by go_num, (D7.below ((Below.refl _ _).drew)), (R7.below ((Below.refl _ _).drew)), hP, G7, hFR, hB7.drew⟩
              case measure => simp [intOf]; omega
            · by_cases hd : dn < cut
              · have hM := hP.no_on hno hon (cyc B' 256)
                rw [hM.1]
                rw [hM.2] at D7
                have hdc : (dn : Int) < (cut : Int) := by omega
                refine wp_region_noPanic ?_
                refine wp_region_held_drew (S := fun X => Blk X wr.heap.size 33 [.int .i64 xd, .int .i64 xs, .slice q xm xc, .bool false]) (by kernel_rfl) g7.drew (fun hHeld => ?_)
                refine wpAnyH_take (i := 0) (v := ?_) rfl (by kernel_rfl) (by kernel_rfl) (by kernel_rfl) (fun _ _ _ h => h) (Or.inl ⟨by rfl, ?_⟩) hHeld ?_
                rotate_left
                · intro w' hSw; try dsimp only at hSw
                  have l0 := hSw.cell' (i := 0) (v := .int .i64 xd) rfl
                  have l1 := hSw.cell' (i := 1) (v := .int .i64 xs) rfl
                  have l2 := hSw.cell' (i := 2) (v := .slice q xm xc) rfl
                  have l3 := hSw.cell' (i := 3) (v := .bool false) rfl
                  go_simp; try (with_reducible rfl)
                try simp only [Act.put, List.getElem_toArray, List.getElem_cons_succ, List.getElem_cons_zero, List.setIfInBounds_toArray, List.set_cons_zero, List.set_cons_succ]
                refine wpAnyH_take (i := 1) (v := ?_) rfl (by kernel_rfl) (by kernel_rfl) (by kernel_rfl) (fun _ _ _ h => h) (Or.inl ⟨by rfl, ?_⟩) hHeld ?_
                rotate_left
                · intro w' hSw; try dsimp only at hSw
                  have l0 := hSw.cell' (i := 0) (v := .int .i64 xd) rfl
                  have l1 := hSw.cell' (i := 1) (v := .int .i64 xs) rfl
                  have l2 := hSw.cell' (i := 2) (v := .slice q xm xc) rfl
                  have l3 := hSw.cell' (i := 3) (v := .bool false) rfl
                  go_simp; try (with_reducible rfl)
                try simp only [Act.put, List.getElem_toArray, List.getElem_cons_succ, List.getElem_cons_zero, List.setIfInBounds_toArray, List.set_cons_zero, List.set_cons_succ]
                refine wpAnyH_take (i := 2) (v := ?_) rfl (by kernel_rfl) (by kernel_rfl) (by kernel_rfl) (fun _ _ _ h => h) (Or.inl ⟨by rfl, ?_⟩) hHeld ?_
                rotate_left
                · intro w' hSw; try dsimp only at hSw
                  have l0 := hSw.cell' (i := 0) (v := .int .i64 xd) rfl
                  have l1 := hSw.cell' (i := 1) (v := .int .i64 xs) rfl
                  have l2 := hSw.cell' (i := 2) (v := .slice q xm xc) rfl
                  have l3 := hSw.cell' (i := 3) (v := .bool false) rfl
                  go_simp; try (with_reducible rfl)
                try simp only [Act.put, List.getElem_toArray, List.getElem_cons_succ, List.getElem_cons_zero, List.setIfInBounds_toArray, List.set_cons_zero, List.set_cons_succ]
                refine wpAnyH_take (i := 3) (v := ?_) rfl (by kernel_rfl) (by kernel_rfl) (by kernel_rfl) (fun _ _ _ h => h) (Or.inl ⟨by rfl, ?_⟩) hHeld ?_
                rotate_left
                · intro w' hSw; try dsimp only at hSw
                  have l0 := hSw.cell' (i := 0) (v := .int .i64 xd) rfl
                  have l1 := hSw.cell' (i := 1) (v := .int .i64 xs) rfl
                  have l2 := hSw.cell' (i := 2) (v := .slice q xm xc) rfl
                  have l3 := hSw.cell' (i := 3) (v := .bool false) rfl
                  go_simp; try (with_reducible rfl)
                try simp only [Act.put, List.getElem_toArray, List.getElem_cons_succ, List.getElem_cons_zero, List.setIfInBounds_toArray, List.set_cons_zero, List.set_cons_succ]
                refine wpAnyH_take (i := 4) (v := ?_) rfl (by kernel_rfl) (by kernel_rfl) (by kernel_rfl) (fun _ _ _ h => h) (Or.inl ⟨by rfl, ?_⟩) hHeld ?_
                rotate_left
                · intro w' hSw; try dsimp only at hSw
                  have l0 := hSw.cell' (i := 0) (v := .int .i64 xd) rfl
                  have l1 := hSw.cell' (i := 1) (v := .int .i64 xs) rfl
                  have l2 := hSw.cell' (i := 2) (v := .slice q xm xc) rfl
                  have l3 := hSw.cell' (i := 3) (v := .bool false) rfl
                  go_simp; try (with_reducible rfl)
                try simp only [Act.put, List.getElem_toArray, List.getElem_cons_succ, List.getElem_cons_zero, List.setIfInBounds_toArray, List.set_cons_zero, List.set_cons_succ]
                refine wpAnyH_take (i := 5) (v := ?_) rfl (by kernel_rfl) (by kernel_rfl) (by kernel_rfl) (fun _ _ _ h => h) (Or.inl ⟨by rfl, ?_⟩) hHeld ?_
                rotate_left
                · intro w' hSw; try dsimp only at hSw
                  have l0 := hSw.cell' (i := 0) (v := .int .i64 xd) rfl
                  have l1 := hSw.cell' (i := 1) (v := .int .i64 xs) rfl
                  have l2 := hSw.cell' (i := 2) (v := .slice q xm xc) rfl
                  have l3 := hSw.cell' (i := 3) (v := .bool false) rfl
                  go_simp; try (with_reducible rfl)
                try simp only [Act.put, List.getElem_toArray, List.getElem_cons_succ, List.getElem_cons_zero, List.setIfInBounds_toArray, List.set_cons_zero, List.set_cons_succ]
                refine wpAnyH_take (i := 6) (v := ?_) rfl (by kernel_rfl) (by kernel_rfl) (by kernel_rfl) (fun _ _ _ h => h) (Or.inl ⟨by rfl, ?_⟩) hHeld ?_
                rotate_left
                · intro w' hSw; try dsimp only at hSw
                  have l0 := hSw.cell' (i := 0) (v := .int .i64 xd) rfl
                  have l1 := hSw.cell' (i := 1) (v := .int .i64 xs) rfl
                  have l2 := hSw.cell' (i := 2) (v := .slice q xm xc) rfl
                  have l3 := hSw.cell' (i := 3) (v := .bool false) rfl
                  go_simp; try (with_reducible rfl)
                try simp only [Act.put, List.getElem_toArray, List.getElem_cons_succ, List.getElem_cons_zero, List.setIfInBounds_toArray, List.set_cons_zero, List.set_cons_succ]
                refine wpAnyH_ready (rs := [7]) (by kernel_rfl) (by simp) ?_
                refine AllReadyH.cons rfl (fun K hK => ?_) AllReadyH.nil
                go_simp
                refine (rsize_any (R7.below ((Below.refl _ _).drew))).mono ?_
                rw [hP.tlen]
                rintro e w' ⟨rfl, hw'⟩
                have hw2 := hw'.symm
                subst hw2
                clear hw'
                try go_wp2_with fail
                refine hK.out _ _ hHeld (fun hHeld => ?_)
                clear hK K
                try simp only [Act.put, List.getElem_toArray, List.getElem_cons_succ, List.getElem_cons_zero, List.setIfInBounds_toArray, List.set_cons_zero, List.set_cons_succ]
                refine wpAnyH_take (i := 8) (v := ?_) rfl (by kernel_rfl) (by kernel_rfl) (by kernel_rfl) (fun _ _ _ h => h) (Or.inl ⟨by rfl, ?_⟩) hHeld ?_
                rotate_left
                · intro w' hSw; try dsimp only at hSw
                  go_simp; try (with_reducible rfl)
                try simp only [Act.put, List.getElem_toArray, List.getElem_cons_succ, List.getElem_cons_zero, List.setIfInBounds_toArray, List.set_cons_zero, List.set_cons_succ]
                refine wpAnyH_take (i := 9) (v := ?_) rfl (by kernel_rfl) (by kernel_rfl) (by kernel_rfl) (fun _ _ _ h => h) (Or.inl ⟨by rfl, ?_⟩) hHeld ?_
                rotate_left
                · intro w' hSw; try dsimp only at hSw
                  go_simp; try (with_reducible rfl)
                try simp only [Act.put, List.getElem_toArray, List.getElem_cons_succ, List.getElem_cons_zero, List.setIfInBounds_toArray, List.set_cons_zero, List.set_cons_succ]
                refine wpAnyH_take (i := 10) (v := ?_) rfl (by kernel_rfl) (by kernel_rfl) (by kernel_rfl) (fun _ _ _ h => h) (Or.inl ⟨by rfl, ?_⟩) hHeld ?_
                rotate_left
                · intro w' hSw; try dsimp only at hSw
                  go_simp; try (with_reducible rfl)
                try simp only [Act.put, List.getElem_toArray, List.getElem_cons_succ, List.getElem_cons_zero, List.setIfInBounds_toArray, List.set_cons_zero, List.set_cons_succ]
                refine wpAnyH_done (by kernel_rfl) ?_ _
                refine NoPanic.normal ?_
                go_wp2_with fail
                go_roundw
                case rel => exact ⟨dn, k + 1, lv7, V', _, _, by omega, by omega, rfl, by go_num, (D7.below ((Below.refl _ _).drew)), (R7.below ((Below.refl _ _).drew)), hP, G7, hFR, hB7.drew⟩
                case measure => simp [intOf]; omega
              · have hM := hP.no_on hno hon (cyc B' 256)
                rw [hM.1]
                rw [hM.2] at D7
                have hdc : ¬ (dn : Int) < (cut : Int) := by omega
                refine wp_region_noPanic ?_
                refine wp_region_held_drew (S := fun X => Blk X wr.heap.size 33 [.int .i64 xd, .int .i64 xs, .slice q xm xc, .bool false]) (by kernel_rfl) g7.drew (fun hHeld => ?_)
                refine wpAnyH_take (i := 0) (v := ?_) rfl (by kernel_rfl) (by kernel_rfl) (by kernel_rfl) (fun _ _ _ h => h) (Or.inl ⟨by rfl, ?_⟩) hHeld ?_
                rotate_left
                · intro w' hSw; try dsimp only at hSw
                  have l0 := hSw.cell' (i := 0) (v := .int .i64 xd) rfl
                  have l1 := hSw.cell' (i := 1) (v := .int .i64 xs) rfl
                  have l2 := hSw.cell' (i := 2) (v := .slice q xm xc) rfl
                  have l3 := hSw.cell' (i := 3) (v := .bool false) rfl
                  go_simp; try (with_reducible rfl)
                try simp only [Act.put, List.getElem_toArray, List.getElem_cons_succ, List.getElem_cons_zero, List.setIfInBounds_toArray, List.set_cons_zero, List.set_cons_succ]
                refine wpAnyH_take (i := 1) (v := ?_) rfl (by kernel_rfl) (by kernel_rfl) (by kernel_rfl) (fun _ _ _ h => h) (Or.inl ⟨by rfl, ?_⟩) hHeld ?_
                rotate_left
                · intro w' hSw; try dsimp only at hSw
                  have l0 := hSw.cell' (i := 0) (v := .int .i64 xd) rfl
                  have l1 := hSw.cell' (i := 1) (v := .int .i64 xs) rfl
                  have l2 := hSw.cell' (i := 2) (v := .slice q xm xc) rfl
                  have l3 := hSw.cell' (i := 3) (v := .bool false) rfl
                  go_simp; try (with_reducible rfl)
                try simp only [Act.put, List.getElem_toArray, List.getElem_cons_succ, List.getElem_cons_zero, List.setIfInBounds_toArray, List.set_cons_zero, List.set_cons_succ]
                refine wpAnyH_take (i := 2) (v := ?_) rfl (by kernel_rfl) (by kernel_rfl) (by kernel_rfl) (fun _ _ _ h => h) (Or.inl ⟨by rfl, ?_⟩) hHeld ?_
                rotate_left
                · intro w' hSw; try dsimp only at hSw
                  have l0 := hSw.cell' (i := 0) (v := .int .i64 xd) rfl
                  have l1 := hSw.cell' (i := 1) (v := .int .i64 xs) rfl
                  have l2 := hSw.cell' (i := 2) (v := .slice q xm xc) rfl
                  have l3 := hSw.cell' (i := 3) (v := .bool false) rfl
                  go_simp; try (with_reducible rfl)
                try simp only [Act.put, List.getElem_toArray, List.getElem_cons_succ, List.getElem_cons_zero, List.setIfInBounds_toArray, List.set_cons_zero, List.set_cons_succ]
                refine wpAnyH_take (i := 3) (v := ?_) rfl (by kernel_rfl) (by kernel_rfl) (by kernel_rfl) (fun _ _ _ h => h) (Or.inl ⟨by rfl, ?_⟩) hHeld ?_
                rotate_left
                · intro w' hSw; try dsimp only at hSw
                  have l0 := hSw.cell' (i := 0) (v := .int .i64 xd) rfl
                  have l1 := hSw.cell' (i := 1) (v := .int .i64 xs) rfl
                  have l2 := hSw.cell' (i := 2) (v := .slice q xm xc) rfl
                  have l3 := hSw.cell' (i := 3) (v := .bool false) rfl
                  go_simp; try (with_reducible rfl)
                try simp only [Act.put, List.getElem_toArray, List.getElem_cons_succ, List.getElem_cons_zero, List.setIfInBounds_toArray, List.set_cons_zero, List.set_cons_succ]
                refine wpAnyH_take (i := 4) (v := ?_) rfl (by kernel_rfl) (by kernel_rfl) (by kernel_rfl) (fun _ _ _ h => h) (Or.inl ⟨by rfl, ?_⟩) hHeld ?_
                rotate_left
                · intro w' hSw; try dsimp only at hSw
                  have l0 := hSw.cell' (i := 0) (v := .int .i64 xd) rfl
                  have l1 := hSw.cell' (i := 1) (v := .int .i64 xs) rfl
                  have l2 := hSw.cell' (i := 2) (v := .slice q xm xc) rfl
                  have l3 := hSw.cell' (i := 3) (v := .bool false) rfl
                  go_simp; try (with_reducible rfl)
                try simp only [Act.put, List.getElem_toArray, List.getElem_cons_succ, List.getElem_cons_zero, List.setIfInBounds_toArray, List.set_cons_zero, List.set_cons_succ]
                refine wpAnyH_take (i := 5) (v := ?_) rfl (by kernel_rfl) (by kernel_rfl) (by kernel_rfl) (fun _ _ _ h => h) (Or.inl ⟨by rfl, ?_⟩) hHeld ?_
                rotate_left
                · intro w' hSw; try dsimp only at hSw
                  have l0 := hSw.cell' (i := 0) (v := .int .i64 xd) rfl
                  have l1 := hSw.cell' (i := 1) (v := .int .i64 xs) rfl
                  have l2 := hSw.cell' (i := 2) (v := .slice q xm xc) rfl
                  have l3 := hSw.cell' (i := 3) (v := .bool false) rfl
                  go_simp; try (with_reducible rfl)
                try simp only [Act.put, List.getElem_toArray, List.getElem_cons_succ, List.getElem_cons_zero, List.setIfInBounds_toArray, List.set_cons_zero, List.set_cons_succ]
                refine wpAnyH_take (i := 6) (v := ?_) rfl (by kernel_rfl) (by kernel_rfl) (by kernel_rfl) (fun _ _ _ h => h) (Or.inl ⟨by rfl, ?_⟩) hHeld ?_
                rotate_left
                · intro w' hSw; try dsimp only at hSw
                  have l0 := hSw.cell' (i := 0) (v := .int .i64 xd) rfl
                  have l1 := hSw.cell' (i := 1) (v := .int .i64 xs) rfl
                  have l2 := hSw.cell' (i := 2) (v := .slice q xm xc) rfl
                  have l3 := hSw.cell' (i := 3) (v := .bool false) rfl
                  go_simp; try (with_reducible rfl)
                try simp only [Act.put, List.getElem_toArray, List.getElem_cons_succ, List.getElem_cons_zero, List.setIfInBounds_toArray, List.set_cons_zero, List.set_cons_succ]
                refine wpAnyH_ready (rs := [7]) (by kernel_rfl) (by simp) ?_
                refine AllReadyH.cons rfl (fun K hK => ?_) AllReadyH.nil
                go_simp
                refine (rsize_any (R7.below ((Below.refl _ _).drew))).mono ?_
                rw [hP.tlen]
                rintro e w' ⟨rfl, hw'⟩
                have hw2 := hw'.symm
                subst hw2
                clear hw'
                try go_wp2_with fail
                refine hK.out _ _ hHeld (fun hHeld => ?_)
                clear hK K
                try simp only [Act.put, List.getElem_toArray, List.getElem_cons_succ, List.getElem_cons_zero, List.setIfInBounds_toArray, List.set_cons_zero, List.set_cons_succ]
                refine wpAnyH_take (i := 8) (v := ?_) rfl (by kernel_rfl) (by kernel_rfl) (by kernel_rfl) (fun _ _ _ h => h) (Or.inl ⟨by rfl, ?_⟩) hHeld ?_
                rotate_left
                · intro w' hSw; try dsimp only at hSw
                  go_simp; try (with_reducible rfl)
                try simp only [Act.put, List.getElem_toArray, List.getElem_cons_succ, List.getElem_cons_zero, List.setIfInBounds_toArray, List.set_cons_zero, List.set_cons_succ]
                refine wpAnyH_take (i := 9) (v := ?_) rfl (by kernel_rfl) (by kernel_rfl) (by kernel_rfl) (fun _ _ _ h => h) (Or.inl ⟨by rfl, ?_⟩) hHeld ?_
                rotate_left
                · intro w' hSw; try dsimp only at hSw
                  go_simp; try (with_reducible rfl)
                try simp only [Act.put, List.getElem_toArray, List.getElem_cons_succ, List.getElem_cons_zero, List.setIfInBounds_toArray, List.set_cons_zero, List.set_cons_succ]
                refine wpAnyH_take (i := 10) (v := ?_) rfl (by kernel_rfl) (by kernel_rfl) (by kernel_rfl) (fun _ _ _ h => h) (Or.inl ⟨by rfl, ?_⟩) hHeld ?_
                rotate_left
                · intro w' hSw; try dsimp only at hSw
                  go_simp; try (with_reducible rfl)
                try simp only [Act.put, List.getElem_toArray, List.getElem_cons_succ, List.getElem_cons_zero, List.setIfInBounds_toArray, List.set_cons_zero, List.set_cons_succ]
                refine wpAnyH_done (by kernel_rfl) ?_ _
                refine NoPanic.normal ?_
                have hOn := on_any (D7.below ((Below.refl _ _).drew))
                rw [hon] at hOn
                go_wp2_with (go_at_call 11; refine hOn.mono ?_; rintro e w' ⟨rfl, hw'⟩; have hw2 := hw'.symm; subst hw2; clear hw')
                go_roundw
                case rel => exact ⟨dn, k + 1, lv7, V', _, _, by omega, by omega, rfl, by go_num, (D7.below ((Below.refl _ _).drew)), (R7.below ((Below.refl _ _).drew)), hP, G7, hFR, hB7.drew⟩
                case measure => simp [intOf]; omega
    · obtain rfl : k = K := by omega
      have hki : ¬ (k : Int) < (k : Int) := by omega
      have hI := hP.images hR.bl
      go_wp2_with (go_at_call 23; refine (restart_any hD).mono ?_; rintro e w5 ⟨⟨u5, rfl⟩, A5⟩)
      have R5 := hR.keepD hD A5.keep
      have B5 := hB.trans (A5.belowB hB.size hFD)
      have hIm := image_any A5.disk
      rw [hI.1, hI.2.1] at hIm
      unfold ramI at hIm
      refine hIm.mono ?_
      rintro e w6 ⟨b6, (⟨_, v6, rs6, rfl, ow6, ea6, _⟩ | ⟨h, _⟩)⟩
      case inr => exact absurd rfl h
      obtain ⟨p6, c6, rfl, rd6⟩ := rdB_of ow6 ea6
      go_wp2_with fail
      have hIr := rimage_any (R5.below b6)
      rw [hI.2.2.1, hI.2.2.2] at hIr
      refine hIr.mono ?_
      rintro e w7 ⟨b7, (⟨_, v7, rs7, rfl, ow7, ea7, _⟩ | ⟨h, _⟩)⟩
      case inr => exact absurd rfl h
      obtain ⟨p7, c7, rfl, rd7⟩ := rdB_of ow7 ea7
      have hsm := sameImage_any (rd6.below b7) rd7 (by have := ea6.len; have := hR.n2; omega)
      rw [show (t.secs == t.secs) = true from by simp] at hsm
      go_wp2_with (go_at_call 17; refine hsm.mono ?_; rintro e w8 ⟨rfl, b8⟩)
      go_ret
      exact ⟨rfl, bt (bt (bt B5 b6) b7) b8⟩
end Go.Proofs.Ytbnnekpglnnneaa
