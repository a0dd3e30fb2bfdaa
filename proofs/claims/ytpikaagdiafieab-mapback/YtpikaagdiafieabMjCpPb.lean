/-
  What Checkpoint answers, whatever the state.
-/
import Derived.Test.YtpikaagdiafieabMjCpB
namespace Go.Proofs.Ytpikaagdiafieab
open Go.RowKit
set_option linter.unusedSimpArgs false in
set_option maxRecDepth 100000 in
set_option maxHeartbeats 8000000 in
theorem checkpoint_any (U : SV) (s : MS) (gen : Int) (w : World) (hs : InS w U s) : Calls Try.prog 16 #[U.val s, .int .i64 gen] w (ResPo w (cpR s gen)) := by
  have hb0 := below_alloc w (.cells #[.slice U.p U.n U.c, .slice U.q U.m U.d, .int .i64 s.seq] 26)
  have bs : Blk _ _ _ (SV.cells U s) := Blk.new' w 26 #[.slice U.p U.n U.c, .slice U.q U.m U.d, .int .i64 s.seq]
  have hck := check_any U s _ (hs.below hb0)
  obtain ⟨x0, x1, x2⟩ := bs.cells3
  cases hok : okMS s with
  | false =>
    rw [chkE_no hok] at hck
    have E : Hid (cpR s gen = ([], 60)) := by show _ = _; unfold cpR; rw [hok]; rfl
    go_enter Try.func16, Try.ntmps16
    go_wp2_with (go_at_call 11; refine hck.mono ?_; rintro e w1 ⟨rfl, hb1⟩)
    go_ret2
    rw [E.out]
    exact ⟨none, 0, [], rfl, ⟨rfl, .inl ⟨rfl, rfl⟩⟩, rfl, (fun i hi => absurd hi (Nat.not_lt_zero i)), bt hb0 hb1⟩
  | true =>
    rw [chkE_ok hok] at hck
    by_cases hg : 0 ≤ gen ∧ gen ≤ 1152921504606846976
    · have HL : Hid (s.bad.length = U.n) := hs.b.len
      have HW : Hid (s.wear.length = U.m) := hs.v.len
      obtain ⟨⟨ka1, ka2⟩, ka3, -⟩ := okMS_iff.1 hok
      have E : Hid (cpR s gen = (cpL s gen ((s.bad.length + 63) / 64), 0)) := by show _ = _; unfold cpR; rw [hok, if_pos (show okGen gen from hg)]; rfl
      rw [HL.out, HW.out] at ka3
      rw [HL.out] at ka1 ka2 E
      obtain ⟨p, n0, c, q, n, d⟩ := U
      dsimp only at ka1 ka2 ka3
      subst ka3
      dsimp only [SV.val] at *
      obtain ⟨gb, ob, hp, gbl, -⟩ := hs.b.at' (by dsimp only; omega)
      obtain ⟨gw, ow, hq, gwl, -⟩ := hs.v.at' (by dsimp only; omega)
      dsimp only at hp hq
      subst hp
      subst hq
      obtain ⟨m, HM⟩ : ∃ m : Nat, Hid (m = (n + 63) / 64) := ⟨_, (rfl : (n + 63) / 64 = (n + 63) / 64)⟩
      have hparts := fun W => parts_any (n : Int) W
      rw [show partsI (n : Int) = (m : Int) by unfold partsI; rw [if_pos (by omega), HM.out]; omega] at hparts
      obtain ⟨cs0, hcs0, hmk⟩ := make_pages m (by rw [HM.out]; omega)
      have hm1 : 1 ≤ m := by rw [HM.out]; omega
      have hm4 : m ≤ 4 := by rw [HM.out]; omega
      have hmn : n ≤ m * 64 := by rw [HM.out]; omega
      have hmn2 : (m - 1) * 64 < n := by rw [HM.out]; omega
      rw [← HM.out] at E
      have hcb := hs.b.cap
      have hcw := hs.v.cap
      dsimp only at hcb hcw
      clear hok HM
      go_enter Try.func16, Try.ntmps16
      go_wp2_with (first
        | (go_at_call 11; refine hck.mono ?_; rintro e w1 ⟨rfl, hb1⟩; have hB1 := bt hb0 hb1; have bs1 := bs.kept hb1; obtain ⟨x0, x1, x2⟩ := bs1.cells3; clear hck)
        | (go_at_call 29; refine (withinL_yes _ hg.1 hg.2).mono ?_; rintro e w' ⟨rfl, hw'⟩; have hw2 := hw'.symm; subst hw2; clear hw')
        | (go_at_call 17; refine (hparts _).mono ?_; rintro e w' ⟨rfl, hw'⟩; have hw2 := hw'.symm; subst hw2; clear hw'))
      have hP0 := Blk.new w1 34 cs0
      have hbe := below_alloc w1 (.cells cs0.toArray 34)
      have hlow : w.heap.size < w1.heap.size := bs1.lt
      go_loopw [26] (fun i wr => ∃ k : Nat, k ≤ m ∧ i = .int .i64 k ∧ ∃ (cs : List Value) (f : Nat → PV), Blk wr w1.heap.size 34 cs ∧ cs.length = m * 7 ∧ (∀ i, i < k → ∀ j u, (PV.cells (f i) (partP s gen i))[j]? = some u → cs[i * 7 + j]? = some u) ∧ (∀ i, i < k → OwnP w1.heap.size wr (f i) (partP s gen i)) ∧ Below w1.heap.size w1 wr) (fun i _ => m - (intOf i).toNat)
      case atStart => exact ⟨0, Nat.zero_le _, rfl, cs0, fun _ => PV.zero, hP0, hcs0, fun i h => by omega, fun i h => by omega, hbe⟩
      case round =>
        obtain ⟨k, hk, rfl, cs, f, hPb, hcl, hrow, hpg, hbel⟩ := hrel
        clear hP0 hbe hcs0 hmk
        have hw := bs1.below hbel hlow
        have hBr : Below w.heap.size w wr := hB1.trans (hbel.mono (by omega))
        have hszr : w1.heap.size ≤ wr.heap.size := hbel.size
        have hgP : w1.heap.size ≤ w1.heap.size := Nat.le_refl _
        have hneP : w.heap.size ≠ w1.heap.size := by omega
        obtain ⟨x0, x1, x2⟩ := hw.cells3
        by_cases hlt : k < m
        · have hki : (k : Int) < (m : Int) := by omega
          obtain ⟨F, HFF⟩ : ∃ F : Nat, Hid (F = k * 64) := ⟨k * 64, (rfl : k * 64 = k * 64)⟩
          have hF : (k : Int) * 64 = (F : Int) := by rw [HFF.out]; omega
          have hFb : F ≤ 192 := by rw [HFF.out]; omega
          have hFn : F < n := by
            have : k * 64 ≤ (m - 1) * 64 := Nat.mul_le_mul_right _ (by omega)
            rw [HFF.out]; omega
          by_cases hmin : (n : Int) < (F : Int) + 64
          · have hsB := slice_lhB gb ob n c F n hFn (Nat.le_refl _) hcb
            have hsL := slice_lhL gw ow n d F n hFn (Nat.le_refl _) hcw
            have hsubB : ∀ X, Below w.heap.size w X → InB X (some ⟨gb, ob + F, none⟩) (n - F) (c - F) ((s.bad.drop F).take (n - F)) := fun X hX => (hs.b.below hX).sub F n hFn (Nat.le_refl _)
            have hsubW : ∀ X, Below w.heap.size w X → InI X (some ⟨gw, ow + F, none⟩) (n - F) (d - F) ((s.wear.drop F).take (n - F)) := fun X hX => (hs.v.below hX).sub F n hFn (Nat.le_refl _)
            have hEB : (s.bad.drop F).take (n - F) = (s.bad.drop (k * 64)).take 64 := by rw [HFF.out, List.take_of_length_le (by rw [List.length_drop, HL.out]; have := HFF.out; omega), List.take_of_length_le (by rw [List.length_drop, HL.out]; have := HFF.out; omega)]
            have hEW : (s.wear.drop F).take (n - F) = (s.wear.drop (k * 64)).take 64 := by rw [HFF.out, List.take_of_length_le (by rw [List.length_drop, HW.out]; have := HFF.out; omega), List.take_of_length_le (by rw [List.length_drop, HW.out]; have := HFF.out; omega)]
            go_upto_region 12 with (fail)
            refine wp_region_noPanic ?_
            refine wp_region_held_drew (S := fun X => Blk X w.heap.size 26 (SV.cells ⟨some ⟨gb, ob, none⟩, n, c, some ⟨gw, ow, none⟩, n, d⟩ s)) (by kernel_rfl) hw.drew (fun hHeld => ?_)
            refine wpAnyH_take (i := 0) (v := ?_) rfl (by kernel_rfl) (by kernel_rfl) (by kernel_rfl) (fun _ _ _ h => h) (Or.inl ⟨by rfl, ?_⟩) hHeld ?_
            rotate_left
            · intro w' hSw; try dsimp only at hSw
              go_simp; try (with_reducible rfl)
            try simp only [Act.put, List.getElem_toArray, List.getElem_cons_succ, List.getElem_cons_zero, List.setIfInBounds_toArray, List.set_cons_zero, List.set_cons_succ]
            refine wpAnyH_take (i := 1) (v := ?_) rfl (by kernel_rfl) (by kernel_rfl) (by kernel_rfl) (fun _ _ _ h => h) (Or.inl ⟨by rfl, ?_⟩) hHeld ?_
            rotate_left
            · intro w' hSw; try dsimp only at hSw
              go_simp; try (with_reducible rfl)
            try simp only [Act.put, List.getElem_toArray, List.getElem_cons_succ, List.getElem_cons_zero, List.setIfInBounds_toArray, List.set_cons_zero, List.set_cons_succ]
            refine wpAnyH_take (i := 2) (v := ?_) rfl (by kernel_rfl) (by kernel_rfl) (by kernel_rfl) (fun _ _ _ h => h) (Or.inl ⟨by rfl, ?_⟩) hHeld ?_
            rotate_left
            · intro w' hSw; try dsimp only at hSw
              go_simp; try (with_reducible rfl)
            try simp only [Act.put, List.getElem_toArray, List.getElem_cons_succ, List.getElem_cons_zero, List.setIfInBounds_toArray, List.set_cons_zero, List.set_cons_succ]
            refine wpAnyH_take (i := 3) (v := ?_) rfl (by kernel_rfl) (by kernel_rfl) (by kernel_rfl) (fun _ _ _ h => h) (Or.inl ⟨by rfl, ?_⟩) hHeld ?_
            rotate_left
            · intro w' hSw; try dsimp only at hSw
              go_simp; try (with_reducible rfl)
            try simp only [Act.put, List.getElem_toArray, List.getElem_cons_succ, List.getElem_cons_zero, List.setIfInBounds_toArray, List.set_cons_zero, List.set_cons_succ]
            refine wpAnyH_take (i := 4) (v := ?_) rfl (by kernel_rfl) (by kernel_rfl) (by kernel_rfl) (fun _ _ _ h => h) (Or.inl ⟨by rfl, ?_⟩) hHeld ?_
            rotate_left
            · intro w' hSw; try dsimp only at hSw
              go_simp; try (with_reducible rfl)
            try simp only [Act.put, List.getElem_toArray, List.getElem_cons_succ, List.getElem_cons_zero, List.setIfInBounds_toArray, List.set_cons_zero, List.set_cons_succ]
            refine wpAnyH_take (i := 5) (v := ?_) rfl (by kernel_rfl) (by kernel_rfl) (by kernel_rfl) (fun _ _ _ h => h) (Or.inl ⟨by rfl, ?_⟩) hHeld ?_
            rotate_left
            · intro w' hSw; try dsimp only at hSw
              obtain ⟨u0, u1, u2⟩ := hSw.cells3
              go_simp; try (with_reducible rfl)
            try simp only [Act.put, List.getElem_toArray, List.getElem_cons_succ, List.getElem_cons_zero, List.setIfInBounds_toArray, List.set_cons_zero, List.set_cons_succ]
            refine wpAnyH_take (i := 6) (v := ?_) rfl (by kernel_rfl) (by kernel_rfl) (by kernel_rfl) (fun _ _ _ h => h) (Or.inl ⟨by rfl, ?_⟩) hHeld ?_
            rotate_left
            · intro w' hSw; try dsimp only at hSw
              go_simp; try (with_reducible rfl)
            try simp only [Act.put, List.getElem_toArray, List.getElem_cons_succ, List.getElem_cons_zero, List.setIfInBounds_toArray, List.set_cons_zero, List.set_cons_succ]
            refine wpAnyH_take (i := 7) (v := ?_) rfl (by kernel_rfl) (by kernel_rfl) (by kernel_rfl) (fun _ _ _ h => h) (Or.inl ⟨by rfl, ?_⟩) hHeld ?_
            rotate_left
            · intro w' hSw; try dsimp only at hSw
              obtain ⟨u0, u1, u2⟩ := hSw.cells3
              go_simp; try (with_reducible rfl)
            try simp only [Act.put, List.getElem_toArray, List.getElem_cons_succ, List.getElem_cons_zero, List.setIfInBounds_toArray, List.set_cons_zero, List.set_cons_succ]
            refine wpAnyH_take (i := 8) (v := ?_) rfl (by kernel_rfl) (by kernel_rfl) (by kernel_rfl) (fun _ _ _ h => h) (Or.inl ⟨by rfl, ?_⟩) hHeld ?_
            rotate_left
            · intro w' hSw; try dsimp only at hSw
              go_simp; try (with_reducible rfl)
            try simp only [Act.put, List.getElem_toArray, List.getElem_cons_succ, List.getElem_cons_zero, List.setIfInBounds_toArray, List.set_cons_zero, List.set_cons_succ]
            refine wpAnyH_take (i := 9) (v := ?_) rfl (by kernel_rfl) (by kernel_rfl) (by kernel_rfl) (fun _ _ _ h => h) (Or.inl ⟨by rfl, ?_⟩) hHeld ?_
            rotate_left
            · intro w' hSw; try dsimp only at hSw
              go_simp; try (with_reducible rfl)
            try simp only [Act.put, List.getElem_toArray, List.getElem_cons_succ, List.getElem_cons_zero, List.setIfInBounds_toArray, List.set_cons_zero, List.set_cons_succ]
            refine wpAnyH_take (i := 10) (v := ?_) rfl (by kernel_rfl) (by kernel_rfl) (by kernel_rfl) (fun _ _ _ h => h) (Or.inl ⟨by rfl, ?_⟩) hHeld ?_
            rotate_left
            · intro w' hSw; try dsimp only at hSw
              go_simp; try (with_reducible rfl)
            try simp only [Act.put, List.getElem_toArray, List.getElem_cons_succ, List.getElem_cons_zero, List.setIfInBounds_toArray, List.set_cons_zero, List.set_cons_succ]
            refine wpAnyH_take (i := 12) (v := ?_) rfl (by kernel_rfl) (by kernel_rfl) (by kernel_rfl) (fun _ _ _ h => h) (Or.inl ⟨by rfl, ?_⟩) hHeld ?_
            rotate_left
            · intro w' hSw; try dsimp only at hSw
              go_simp; try (with_reducible rfl)
            try simp only [Act.put, List.getElem_toArray, List.getElem_cons_succ, List.getElem_cons_zero, List.setIfInBounds_toArray, List.set_cons_zero, List.set_cons_succ]
            refine wpAnyH_take (i := 13) (v := ?_) rfl (by kernel_rfl) (by kernel_rfl) (by kernel_rfl) (fun _ _ _ h => h) (Or.inl ⟨by rfl, ?_⟩) hHeld ?_
            rotate_left
            · intro w' hSw; try dsimp only at hSw
              obtain ⟨u0, u1, u2⟩ := hSw.cells3
              go_simp; try (with_reducible rfl)
            try simp only [Act.put, List.getElem_toArray, List.getElem_cons_succ, List.getElem_cons_zero, List.setIfInBounds_toArray, List.set_cons_zero, List.set_cons_succ]
            refine wpAnyH_take (i := 14) (v := ?_) rfl (by kernel_rfl) (by kernel_rfl) (by kernel_rfl) (fun _ _ _ h => h) (Or.inl ⟨by rfl, ?_⟩) hHeld ?_
            rotate_left
            · intro w' hSw; try dsimp only at hSw
              go_simp; try (with_reducible rfl)
            try simp only [Act.put, List.getElem_toArray, List.getElem_cons_succ, List.getElem_cons_zero, List.setIfInBounds_toArray, List.set_cons_zero, List.set_cons_succ]
            refine wpAnyH_take (i := 15) (v := ?_) rfl (by kernel_rfl) (by kernel_rfl) (by kernel_rfl) (fun _ _ _ h => h) (Or.inl ⟨by rfl, ?_⟩) hHeld ?_
            rotate_left
            · intro w' hSw; try dsimp only at hSw
              go_simp; try (with_reducible rfl)
            try simp only [Act.put, List.getElem_toArray, List.getElem_cons_succ, List.getElem_cons_zero, List.setIfInBounds_toArray, List.set_cons_zero, List.set_cons_succ]
            refine wpAnyH_take (i := 16) (v := ?_) rfl (by kernel_rfl) (by kernel_rfl) (by kernel_rfl) (fun _ _ _ h => h) (Or.inl ⟨by rfl, ?_⟩) hHeld ?_
            rotate_left
            · intro w' hSw; try dsimp only at hSw
              go_simp; try (with_reducible rfl)
            try simp only [Act.put, List.getElem_toArray, List.getElem_cons_succ, List.getElem_cons_zero, List.setIfInBounds_toArray, List.set_cons_zero, List.set_cons_succ]
            refine wpAnyH_ready (rs := [11]) (by kernel_rfl) (by simp) ?_
            refine AllReadyH.cons rfl (fun K hK => ?_) AllReadyH.nil
            go_simp
            refine (cloneB_any _ _ _ ((s.bad.drop F).take (n - F)) _ (hsubB _ hBr.drew) (by omega)).mono ?_
            rintro e w5 ⟨v5, rfl, ⟨p5, c5, rfl⟩, ho5, hb5⟩
            try go_wp2_with fail
            refine hK.out _ _ (hHeld.kept hb5) (fun hHeld => ?_)
            clear hK K
            try simp only [Act.put, List.getElem_toArray, List.getElem_cons_succ, List.getElem_cons_zero, List.setIfInBounds_toArray, List.set_cons_zero, List.set_cons_succ]
            refine wpAnyH_ready (rs := [17]) (by kernel_rfl) (by simp) ?_
            refine AllReadyH.cons rfl (fun K hK => ?_) AllReadyH.nil
            go_simp
            refine (cloneL_any _ _ _ ((s.wear.drop F).take (n - F)) _ (hsubW _ (bt hBr.drew hb5)) (by omega)).mono ?_
            rintro e w6 ⟨v6, rfl, ⟨q6, d6, rfl⟩, ho6, hb6⟩
            try go_wp2_with fail
            refine hK.out _ _ (hHeld.kept hb6) (fun hHeld => ?_)
            clear hK K
            try simp only [Act.put, List.getElem_toArray, List.getElem_cons_succ, List.getElem_cons_zero, List.setIfInBounds_toArray, List.set_cons_zero, List.set_cons_succ]
            refine wpAnyH_take (i := 18) (v := ?_) rfl (by kernel_rfl) (by kernel_rfl) (by kernel_rfl) (fun _ _ _ h => h) (Or.inl ⟨by rfl, ?_⟩) hHeld ?_
            rotate_left
            · intro w' hSw; try dsimp only at hSw
              go_simp; try (with_reducible rfl)
            try simp only [Act.put, List.getElem_toArray, List.getElem_cons_succ, List.getElem_cons_zero, List.setIfInBounds_toArray, List.set_cons_zero, List.set_cons_succ]
            refine wpAnyH_take (i := 19) (v := ?_) rfl (by kernel_rfl) (by kernel_rfl) (by kernel_rfl) (fun _ _ _ h => h) (Or.inl ⟨by rfl, ?_⟩) hHeld ?_
            rotate_left
            · intro w' hSw; try dsimp only at hSw
              go_simp; try (with_reducible rfl)
            try simp only [Act.put, List.getElem_toArray, List.getElem_cons_succ, List.getElem_cons_zero, List.setIfInBounds_toArray, List.set_cons_zero, List.set_cons_succ]
            have hP6 := (hPb.drew.kept hb5).kept hb6
            refine wpAnyH_ready (rs := [20]) (by kernel_rfl) (by simp) ?_
            refine AllReadyH.cons rfl (fun K hK => ?_) AllReadyH.nil
            rw [if_pos (by rfl)]
            refine wp_store_blk 34 (.tmp 56) _ rfl w1.heap.size (k * 7) [.int .i64 1, .int .i64 gen, .int .i64 (k : Int), .int .i64 s.seq, .slice p5 (n - F) c5, .slice q6 (n - F) d6, .slice none 0 0] rfl rfl hP6 (by rw [hcl]; show k * 7 + 7 ≤ m * 7; omega) (mpSize ⟨p5, n - F, c5, q6, n - F, d6, none, 0, 0⟩ (partP s gen k)) (mpOne ⟨p5, n - F, c5, q6, n - F, d6, none, 0, 0⟩ (partP s gen k)) ?_
            intro w9 h9 ht9
            refine hK.out _ _ (hHeld.turned ht9 hneP) (fun hHeld => ?_)
            clear hK K
            try simp only [Act.put, List.getElem_toArray, List.getElem_cons_succ, List.getElem_cons_zero, List.setIfInBounds_toArray, List.set_cons_zero, List.set_cons_succ]
            refine wpAnyH_done (by kernel_rfl) ?_ _
            refine NoPanic.normal ?_
            have hown : OwnP w1.heap.size w6 ⟨p5, n - F, c5, q6, n - F, d6, none, 0, 0⟩ (partP s gen k) := ⟨by have := owns_mono (owns_below ho5 hb6) hszr; rw [hEB] at this; exact this, by have := owns_mono ho6 (Nat.le_trans hszr hb5.size); rw [hEW] at this; exact this, ⟨rfl, .inl ⟨rfl, rfl⟩⟩, by show n - F ≤ _; omega, by show n - F ≤ _; omega, Nat.zero_le _⟩
            have hB9 : Below w1.heap.size w1 w9 := ht9.below ((hbel.drew.trans (hb5.mono hszr)).trans (hb6.mono (Nat.le_trans hszr hb5.size))) hgP
            have hnew := hown.turned ht9 hP6 (by decide) (by decide) (by decide)
            have hold : ∀ i, i < k → OwnP w1.heap.size w9 (f i) (partP s gen i) := fun i hi => (((hpg i hi).next (Below.refl _ _).drew).next hb5 |>.next hb6).turned ht9 hP6 (by decide) (by decide) (by decide)
            go_wp2_with fail
            go_roundw
            case rel =>
              refine ⟨k + 1, by omega, by go_num, _, fun i => if i = k then ⟨p5, n - F, c5, q6, n - F, d6, none, 0, 0⟩ else f i, h9, ?_, fun i hi => ?_, fun i hi => ?_, hB9⟩
              · simp only [List.length_append, List.length_take, List.length_drop, hcl, List.length_cons, List.length_nil]; omega
              · by_cases hik : i = k
                · subst hik
                  simp only [if_true]
                  exact fun j u hu => row_new hcl (show i < m by omega) (xs := PV.cells ⟨p5, n - F, c5, q6, n - F, d6, none, 0, 0⟩ (partP s gen i)) rfl hu
                · simp only [if_neg hik]
                  exact fun j u hu => row_old hcl (show k < m by omega) (show i < k by omega) (xs := PV.cells ⟨p5, n - F, c5, q6, n - F, d6, none, 0, 0⟩ (partP s gen k)) rfl (hrow i (by omega) j u hu) (cells_ltP hu)
              · by_cases hik : i = k
                · subst hik
                  simp only [if_true]; exact hnew
                · simp only [if_neg hik]; exact hold i (by omega)
            case measure => simp [intOf]; omega
          · obtain ⟨e, HEE⟩ : ∃ e : Nat, Hid (e = F + 64) := ⟨F + 64, (rfl : F + 64 = F + 64)⟩
            have hE1 : (F : Int) + 64 = (e : Int) := by rw [HEE.out]; omega
            have hE2 : F < e := by rw [HEE.out]; omega
            have hE3 : e ≤ n := by rw [HEE.out]; omega
            rw [hE1] at hmin
            have hsB := slice_lhB gb ob n c F e hE2 hE3 hcb
            have hsL := slice_lhL gw ow n d F e hE2 hE3 hcw
            have hsubB : ∀ X, Below w.heap.size w X → InB X (some ⟨gb, ob + F, none⟩) (e - F) (c - F) ((s.bad.drop F).take (e - F)) := fun X hX => (hs.b.below hX).sub F e hE2 hE3
            have hsubW : ∀ X, Below w.heap.size w X → InI X (some ⟨gw, ow + F, none⟩) (e - F) (d - F) ((s.wear.drop F).take (e - F)) := fun X hX => (hs.v.below hX).sub F e hE2 hE3
            have hEB : (s.bad.drop F).take (e - F) = (s.bad.drop (k * 64)).take 64 := by rw [HEE.out, HFF.out, Nat.add_sub_cancel_left]
            have hEW : (s.wear.drop F).take (e - F) = (s.wear.drop (k * 64)).take 64 := by rw [HEE.out, HFF.out, Nat.add_sub_cancel_left]
            go_upto_region 12 with (fail)
            refine wp_region_noPanic ?_
            refine wp_region_held_drew (S := fun X => Blk X w.heap.size 26 (SV.cells ⟨some ⟨gb, ob, none⟩, n, c, some ⟨gw, ow, none⟩, n, d⟩ s)) (by kernel_rfl) hw.drew (fun hHeld => ?_)
            refine wpAnyH_take (i := 0) (v := ?_) rfl (by kernel_rfl) (by kernel_rfl) (by kernel_rfl) (fun _ _ _ h => h) (Or.inl ⟨by rfl, ?_⟩) hHeld ?_
            rotate_left
            · intro w' hSw; try dsimp only at hSw
              go_simp; try (with_reducible rfl)
            try simp only [Act.put, List.getElem_toArray, List.getElem_cons_succ, List.getElem_cons_zero, List.setIfInBounds_toArray, List.set_cons_zero, List.set_cons_succ]
            refine wpAnyH_take (i := 1) (v := ?_) rfl (by kernel_rfl) (by kernel_rfl) (by kernel_rfl) (fun _ _ _ h => h) (Or.inl ⟨by rfl, ?_⟩) hHeld ?_
            rotate_left
            · intro w' hSw; try dsimp only at hSw
              go_simp; try (with_reducible rfl)
            try simp only [Act.put, List.getElem_toArray, List.getElem_cons_succ, List.getElem_cons_zero, List.setIfInBounds_toArray, List.set_cons_zero, List.set_cons_succ]
            refine wpAnyH_take (i := 2) (v := ?_) rfl (by kernel_rfl) (by kernel_rfl) (by kernel_rfl) (fun _ _ _ h => h) (Or.inl ⟨by rfl, ?_⟩) hHeld ?_
            rotate_left
            · intro w' hSw; try dsimp only at hSw
              go_simp; try (with_reducible rfl)
            try simp only [Act.put, List.getElem_toArray, List.getElem_cons_succ, List.getElem_cons_zero, List.setIfInBounds_toArray, List.set_cons_zero, List.set_cons_succ]
            refine wpAnyH_take (i := 3) (v := ?_) rfl (by kernel_rfl) (by kernel_rfl) (by kernel_rfl) (fun _ _ _ h => h) (Or.inl ⟨by rfl, ?_⟩) hHeld ?_
            rotate_left
            · intro w' hSw; try dsimp only at hSw
              go_simp; try (with_reducible rfl)
            try simp only [Act.put, List.getElem_toArray, List.getElem_cons_succ, List.getElem_cons_zero, List.setIfInBounds_toArray, List.set_cons_zero, List.set_cons_succ]
            refine wpAnyH_take (i := 4) (v := ?_) rfl (by kernel_rfl) (by kernel_rfl) (by kernel_rfl) (fun _ _ _ h => h) (Or.inl ⟨by rfl, ?_⟩) hHeld ?_
            rotate_left
            · intro w' hSw; try dsimp only at hSw
              go_simp; try (with_reducible rfl)
            try simp only [Act.put, List.getElem_toArray, List.getElem_cons_succ, List.getElem_cons_zero, List.setIfInBounds_toArray, List.set_cons_zero, List.set_cons_succ]
            refine wpAnyH_take (i := 5) (v := ?_) rfl (by kernel_rfl) (by kernel_rfl) (by kernel_rfl) (fun _ _ _ h => h) (Or.inl ⟨by rfl, ?_⟩) hHeld ?_
            rotate_left
            · intro w' hSw; try dsimp only at hSw
              obtain ⟨u0, u1, u2⟩ := hSw.cells3
              go_simp; try (with_reducible rfl)
            try simp only [Act.put, List.getElem_toArray, List.getElem_cons_succ, List.getElem_cons_zero, List.setIfInBounds_toArray, List.set_cons_zero, List.set_cons_succ]
            refine wpAnyH_take (i := 6) (v := ?_) rfl (by kernel_rfl) (by kernel_rfl) (by kernel_rfl) (fun _ _ _ h => h) (Or.inl ⟨by rfl, ?_⟩) hHeld ?_
            rotate_left
            · intro w' hSw; try dsimp only at hSw
              go_simp; try (with_reducible rfl)
            try simp only [Act.put, List.getElem_toArray, List.getElem_cons_succ, List.getElem_cons_zero, List.setIfInBounds_toArray, List.set_cons_zero, List.set_cons_succ]
            refine wpAnyH_take (i := 7) (v := ?_) rfl (by kernel_rfl) (by kernel_rfl) (by kernel_rfl) (fun _ _ _ h => h) (Or.inl ⟨by rfl, ?_⟩) hHeld ?_
            rotate_left
            · intro w' hSw; try dsimp only at hSw
              obtain ⟨u0, u1, u2⟩ := hSw.cells3
              go_simp; try (with_reducible rfl)
            try simp only [Act.put, List.getElem_toArray, List.getElem_cons_succ, List.getElem_cons_zero, List.setIfInBounds_toArray, List.set_cons_zero, List.set_cons_succ]
            refine wpAnyH_take (i := 8) (v := ?_) rfl (by kernel_rfl) (by kernel_rfl) (by kernel_rfl) (fun _ _ _ h => h) (Or.inl ⟨by rfl, ?_⟩) hHeld ?_
            rotate_left
            · intro w' hSw; try dsimp only at hSw
              go_simp; try (with_reducible rfl)
            try simp only [Act.put, List.getElem_toArray, List.getElem_cons_succ, List.getElem_cons_zero, List.setIfInBounds_toArray, List.set_cons_zero, List.set_cons_succ]
            refine wpAnyH_take (i := 9) (v := ?_) rfl (by kernel_rfl) (by kernel_rfl) (by kernel_rfl) (fun _ _ _ h => h) (Or.inl ⟨by rfl, ?_⟩) hHeld ?_
            rotate_left
            · intro w' hSw; try dsimp only at hSw
              go_simp; try (with_reducible rfl)
            try simp only [Act.put, List.getElem_toArray, List.getElem_cons_succ, List.getElem_cons_zero, List.setIfInBounds_toArray, List.set_cons_zero, List.set_cons_succ]
            refine wpAnyH_take (i := 10) (v := ?_) rfl (by kernel_rfl) (by kernel_rfl) (by kernel_rfl) (fun _ _ _ h => h) (Or.inl ⟨by rfl, ?_⟩) hHeld ?_
            rotate_left
            · intro w' hSw; try dsimp only at hSw
              go_simp; try (with_reducible rfl)
            try simp only [Act.put, List.getElem_toArray, List.getElem_cons_succ, List.getElem_cons_zero, List.setIfInBounds_toArray, List.set_cons_zero, List.set_cons_succ]
            refine wpAnyH_take (i := 12) (v := ?_) rfl (by kernel_rfl) (by kernel_rfl) (by kernel_rfl) (fun _ _ _ h => h) (Or.inl ⟨by rfl, ?_⟩) hHeld ?_
            rotate_left
            · intro w' hSw; try dsimp only at hSw
              go_simp; try (with_reducible rfl)
            try simp only [Act.put, List.getElem_toArray, List.getElem_cons_succ, List.getElem_cons_zero, List.setIfInBounds_toArray, List.set_cons_zero, List.set_cons_succ]
            refine wpAnyH_take (i := 13) (v := ?_) rfl (by kernel_rfl) (by kernel_rfl) (by kernel_rfl) (fun _ _ _ h => h) (Or.inl ⟨by rfl, ?_⟩) hHeld ?_
            rotate_left
            · intro w' hSw; try dsimp only at hSw
              obtain ⟨u0, u1, u2⟩ := hSw.cells3
              go_simp; try (with_reducible rfl)
            try simp only [Act.put, List.getElem_toArray, List.getElem_cons_succ, List.getElem_cons_zero, List.setIfInBounds_toArray, List.set_cons_zero, List.set_cons_succ]
            refine wpAnyH_take (i := 14) (v := ?_) rfl (by kernel_rfl) (by kernel_rfl) (by kernel_rfl) (fun _ _ _ h => h) (Or.inl ⟨by rfl, ?_⟩) hHeld ?_
            rotate_left
            · intro w' hSw; try dsimp only at hSw
              go_simp; try (with_reducible rfl)
            try simp only [Act.put, List.getElem_toArray, List.getElem_cons_succ, List.getElem_cons_zero, List.setIfInBounds_toArray, List.set_cons_zero, List.set_cons_succ]
            refine wpAnyH_take (i := 15) (v := ?_) rfl (by kernel_rfl) (by kernel_rfl) (by kernel_rfl) (fun _ _ _ h => h) (Or.inl ⟨by rfl, ?_⟩) hHeld ?_
            rotate_left
            · intro w' hSw; try dsimp only at hSw
              go_simp; try (with_reducible rfl)
            try simp only [Act.put, List.getElem_toArray, List.getElem_cons_succ, List.getElem_cons_zero, List.setIfInBounds_toArray, List.set_cons_zero, List.set_cons_succ]
            refine wpAnyH_take (i := 16) (v := ?_) rfl (by kernel_rfl) (by kernel_rfl) (by kernel_rfl) (fun _ _ _ h => h) (Or.inl ⟨by rfl, ?_⟩) hHeld ?_
            rotate_left
            · intro w' hSw; try dsimp only at hSw
              go_simp; try (with_reducible rfl)
            try simp only [Act.put, List.getElem_toArray, List.getElem_cons_succ, List.getElem_cons_zero, List.setIfInBounds_toArray, List.set_cons_zero, List.set_cons_succ]
            refine wpAnyH_ready (rs := [11]) (by kernel_rfl) (by simp) ?_
            refine AllReadyH.cons rfl (fun K hK => ?_) AllReadyH.nil
            go_simp
            refine (cloneB_any _ _ _ ((s.bad.drop F).take (e - F)) _ (hsubB _ hBr.drew) (by omega)).mono ?_
            rintro e w5 ⟨v5, rfl, ⟨p5, c5, rfl⟩, ho5, hb5⟩
            try go_wp2_with fail
            refine hK.out _ _ (hHeld.kept hb5) (fun hHeld => ?_)
            clear hK K
            try simp only [Act.put, List.getElem_toArray, List.getElem_cons_succ, List.getElem_cons_zero, List.setIfInBounds_toArray, List.set_cons_zero, List.set_cons_succ]
            refine wpAnyH_ready (rs := [17]) (by kernel_rfl) (by simp) ?_
            refine AllReadyH.cons rfl (fun K hK => ?_) AllReadyH.nil
            go_simp
            refine (cloneL_any _ _ _ ((s.wear.drop F).take (e - F)) _ (hsubW _ (bt hBr.drew hb5)) (by omega)).mono ?_
            rintro e w6 ⟨v6, rfl, ⟨q6, d6, rfl⟩, ho6, hb6⟩
            try go_wp2_with fail
            refine hK.out _ _ (hHeld.kept hb6) (fun hHeld => ?_)
            clear hK K
            try simp only [Act.put, List.getElem_toArray, List.getElem_cons_succ, List.getElem_cons_zero, List.setIfInBounds_toArray, List.set_cons_zero, List.set_cons_succ]
            refine wpAnyH_take (i := 18) (v := ?_) rfl (by kernel_rfl) (by kernel_rfl) (by kernel_rfl) (fun _ _ _ h => h) (Or.inl ⟨by rfl, ?_⟩) hHeld ?_
            rotate_left
            · intro w' hSw; try dsimp only at hSw
              go_simp; try (with_reducible rfl)
            try simp only [Act.put, List.getElem_toArray, List.getElem_cons_succ, List.getElem_cons_zero, List.setIfInBounds_toArray, List.set_cons_zero, List.set_cons_succ]
            refine wpAnyH_take (i := 19) (v := ?_) rfl (by kernel_rfl) (by kernel_rfl) (by kernel_rfl) (fun _ _ _ h => h) (Or.inl ⟨by rfl, ?_⟩) hHeld ?_
            rotate_left
            · intro w' hSw; try dsimp only at hSw
              go_simp; try (with_reducible rfl)
            try simp only [Act.put, List.getElem_toArray, List.getElem_cons_succ, List.getElem_cons_zero, List.setIfInBounds_toArray, List.set_cons_zero, List.set_cons_succ]
            have hP6 := (hPb.drew.kept hb5).kept hb6
            refine wpAnyH_ready (rs := [20]) (by kernel_rfl) (by simp) ?_
            refine AllReadyH.cons rfl (fun K hK => ?_) AllReadyH.nil
            rw [if_pos (by rfl)]
            refine wp_store_blk 34 (.tmp 56) _ rfl w1.heap.size (k * 7) [.int .i64 1, .int .i64 gen, .int .i64 (k : Int), .int .i64 s.seq, .slice p5 (e - F) c5, .slice q6 (e - F) d6, .slice none 0 0] rfl rfl hP6 (by rw [hcl]; show k * 7 + 7 ≤ m * 7; omega) (mpSize ⟨p5, e - F, c5, q6, e - F, d6, none, 0, 0⟩ (partP s gen k)) (mpOne ⟨p5, e - F, c5, q6, e - F, d6, none, 0, 0⟩ (partP s gen k)) ?_
            intro w9 h9 ht9
            refine hK.out _ _ (hHeld.turned ht9 hneP) (fun hHeld => ?_)
            clear hK K
            try simp only [Act.put, List.getElem_toArray, List.getElem_cons_succ, List.getElem_cons_zero, List.setIfInBounds_toArray, List.set_cons_zero, List.set_cons_succ]
            refine wpAnyH_done (by kernel_rfl) ?_ _
            refine NoPanic.normal ?_
            have hown : OwnP w1.heap.size w6 ⟨p5, e - F, c5, q6, e - F, d6, none, 0, 0⟩ (partP s gen k) := ⟨by have := owns_mono (owns_below ho5 hb6) hszr; rw [hEB] at this; exact this, by have := owns_mono ho6 (Nat.le_trans hszr hb5.size); rw [hEW] at this; exact this, ⟨rfl, .inl ⟨rfl, rfl⟩⟩, by show e - F ≤ _; omega, by show e - F ≤ _; omega, Nat.zero_le _⟩
            have hB9 : Below w1.heap.size w1 w9 := ht9.below ((hbel.drew.trans (hb5.mono hszr)).trans (hb6.mono (Nat.le_trans hszr hb5.size))) hgP
            have hnew := hown.turned ht9 hP6 (by decide) (by decide) (by decide)
            have hold : ∀ i, i < k → OwnP w1.heap.size w9 (f i) (partP s gen i) := fun i hi => (((hpg i hi).next (Below.refl _ _).drew).next hb5 |>.next hb6).turned ht9 hP6 (by decide) (by decide) (by decide)
            go_wp2_with fail
            go_roundw
            case rel =>
              refine ⟨k + 1, by omega, by go_num, _, fun i => if i = k then ⟨p5, e - F, c5, q6, e - F, d6, none, 0, 0⟩ else f i, h9, ?_, fun i hi => ?_, fun i hi => ?_, hB9⟩
              · simp only [List.length_append, List.length_take, List.length_drop, hcl, List.length_cons, List.length_nil]; omega
              · by_cases hik : i = k
                · subst hik
                  simp only [if_true]
                  exact fun j u hu => row_new hcl (show i < m by omega) (xs := PV.cells ⟨p5, e - F, c5, q6, e - F, d6, none, 0, 0⟩ (partP s gen i)) rfl hu
                · simp only [if_neg hik]
                  exact fun j u hu => row_old hcl (show k < m by omega) (show i < k by omega) (xs := PV.cells ⟨p5, e - F, c5, q6, e - F, d6, none, 0, 0⟩ (partP s gen k)) rfl (hrow i (by omega) j u hu) (cells_ltP hu)
              · by_cases hik : i = k
                · subst hik
                  simp only [if_true]; exact hnew
                · simp only [if_neg hik]; exact hold i (by omega)
            case measure => simp [intOf]; omega
        · have hkm : k = m := by omega
          subst hkm
          go_wp2
          go_ret2
          rw [E.out]
          have hLl : (pairQ f (cpL s gen k)).length = k := by rw [pairQ_length, cpL_length]
          have heq : ∀ i, i < k → eQ (pairQ f (cpL s gen k)) i = (f i, partP s gen i) := fun i hi => by rw [eQ_pair (by rw [cpL_length]; exact hi), eP_cpL hi]
          have hfl := row_flat hcl hLl (fun i hi j u hu => by rw [heq i hi] at hu; exact hrow i hi j u hu)
          rw [hfl] at hPb
          refine ⟨some ⟨w1.heap.size, 0, none⟩, k, pairQ f (cpL s gen k), by show Ending.returned (.tuple #[.slice (some ⟨w1.heap.size, 0, none⟩) k k, .int .i64 0]) = _; rw [cpL_length], ?_, pairQ_snd _ _, fun i hi => ?_, hBr⟩
          · rw [cpL_length]
            exact owns_of_blkQ hB1.size hLl (by unfold maxLen; omega) hPb
          · rw [cpL_length] at hi
            rw [heq i hi]; exact (hpg i hi).low hB1.size
    · have E : Hid (cpR s gen = ([], 1)) := by show _ = _; unfold cpR; rw [hok, if_neg (show ¬ okGen gen from hg)]; rfl
      go_enter Try.func16, Try.ntmps16
      go_wp2_with (first
        | (go_at_call 11; refine hck.mono ?_; rintro e w1 ⟨rfl, hb1⟩)
        | (go_at_call 29; refine (withinL_no _ hg).mono ?_; rintro e w' ⟨rfl, hw'⟩; have hw2 := hw'.symm; subst hw2; clear hw'))
      go_ret2
      rw [E.out]
      exact ⟨none, 0, [], rfl, ⟨rfl, .inl ⟨rfl, rfl⟩⟩, rfl, (fun i hi => absurd hi (Nat.not_lt_zero i)), bt hb0 hb1⟩
end Go.Proofs.Ytpikaagdiafieab
