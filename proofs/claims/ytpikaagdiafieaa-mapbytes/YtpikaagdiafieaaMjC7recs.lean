/-
  What the reference's Parse answers, by case.
-/
import Derived.Test.YtpikaagdiafieaaMjC6
import Derived.Deep.CutRange
namespace Go.Proofs.Ytpikaagdiafieaa
open Go.RowKit
set_option linter.unusedSimpArgs false in
set_option linter.unusedVariables false in
set_option maxRecDepth 100000 in
set_option maxHeartbeats 8000000 in
theorem rparse_recs (gb ob c : Nat) (xs : List Nat) (w : World) (hb : In w (some ⟨gb, ob, none⟩) 256 c xs) (hk : rkind xs = 2) (hm : rmany xs ≤ 24) (R : MP × Int) (hR : R = if okMP (rreadP xs) = true ∧ writeL (rreadP xs) = xs then (rreadP xs, 0) else (MP.zero, 62)) :
    Calls Try.prog 37 #[.slice (some ⟨gb, ob, none⟩) 256 c] w (ResP w R) := by
  have hrr := Blk.new' w 42 #[.int .i64 0, .int .i64 0, .int .i64 0, .int .i64 0, .slice none 0 0, .slice none 0 0, .slice none 0 0]
  have hb0 := below_alloc w (.cells #[.int .i64 0, .int .i64 0, .int .i64 0, .int .i64 0, .slice none 0 0, .slice none 0 0, .slice none 0 0] 42)
  have hcap := hb.cap
  obtain ⟨gb', ob', hp', hlt', hcl⟩ := hb.at' (by decide)
  cases hp'
  have HR : Hid (R = if okMP (rreadP xs) = true ∧ writeL (rreadP xs) = xs then (rreadP xs, 0) else (MP.zero, 62)) := hR
  have HRD : Hid (rreadP xs = ⟨rkind xs, rgen xs, rpart xs, 0, [], [], (List.range (rmany xs)).map (rrec xs)⟩) := by show _ = _; unfold rreadP; rw [if_neg (by omega), if_pos ⟨hk, hm⟩]
  clear hR
  generalize rreadP xs = Q at *
  have e0 : w.cell? ⟨gb, ob, none⟩ = some (.int .u8 (rkind xs)) := by have := hcl 0 (by decide); rw [Nat.add_zero] at this; exact this
  have e1 : w.cell? ⟨gb, ob + 1, none⟩ = some (.int .u8 (rpart xs)) := hcl 1 (by decide)
  have e2 : w.cell? ⟨gb, ob + 2, none⟩ = some (.int .u8 ((rmany xs : Nat) : Int)) := hcl 2 (by decide)
  have hr0 := hb.range 0
  have hr1 := hb.range 1
  have hr2 := hb.range 2
  have hk00 : 0 ≤ rkind xs ∧ rkind xs ≤ 255 := hr0
  have hk11 : 0 ≤ rpart xs ∧ rpart xs ≤ 255 := hr1
  have hk22 : rmany xs ≤ 255 := by have h := hr2.2; have : ((rmany xs : Nat) : Int) ≤ 255 := h; omega
  have hw0 : IntKind.i64.wrap (rkind xs) = rkind xs := by rw [IntKind.wrap_i64]; omega
  have hw1 : IntKind.i64.wrap (rpart xs) = rpart xs := by rw [IntKind.wrap_i64]; omega
  have hw2 : IntKind.i64.wrap ((rmany xs : Nat) : Int) = ((rmany xs : Nat) : Int) := by rw [IntKind.wrap_i64]; omega
  have hv0 : wrap64 (rkind xs) = rkind xs := (IntWalk.i64_left _).symm.trans hw0
  have hv1 : wrap64 (rpart xs) = rpart xs := (IntWalk.i64_left _).symm.trans hw1
  have hv2 : wrap64 ((rmany xs : Nat) : Int) = ((rmany xs : Nat) : Int) := (IntWalk.i64_left _).symm.trans hw2
  have hs8 : ∀ W : World, (Instr.slice 53 (.slice (some ⟨gb, ob, none⟩) 256 c) (some (.int .i64 8)) (some (.int .i64 16)) none).run Try.prog W = .ok (.slice (some ⟨gb, ob + 8, none⟩) 8 (c - 8)) W := fun W => slice_lh0 gb ob 256 c 8 8 16 rfl (by decide) (by decide) hcap W
  have nG := fun X (h : In X (some ⟨gb, ob, none⟩) 256 c xs) => number_any (some ⟨gb, ob + 8, none⟩) 8 (c - 8) (subL xs 8 8) X (h.sub0 8 8 (by decide)) (by decide)
  rw [show wI (numTo (subL xs 8 8) 8) = rgen xs from rfl] at nG
  have bk1 : (rkind xs == 1) = false := by rw [hk]; rfl
  have bk2 : (rkind xs == 2) = true := by simpa using hk
  have bm : ((rmany xs : Nat) : Int) ≤ 24 := Int.ofNat_le.2 hm
  clear hk
  generalize rgen xs = K4 at *
  generalize rkind xs = K0 at *
  generalize rpart xs = K1 at *
  obtain ⟨m, HMM⟩ : ∃ m, Hid (rmany xs = m) := ⟨_, rfl⟩
  rw [HMM.out] at e2 hw2 hv2 hk22 HRD hm bm
  clear hr0 hr1 hr2
  have HCL : Hid (∀ i, i < 256 → w.cell? ⟨gb, ob + i, none⟩ = some (.int .u8 (el xs i))) := hcl
  clear hcl
  go_enter Try.func37, Try.ntmps37
  go_upto_region 3 with (fail)
  generalize hW0 : w.alloc (.cells #[.int .i64 0, .int .i64 0, .int .i64 0, .int .i64 0, .slice none 0 0, .slice none 0 0, .slice none 0 0] 42) = W at *
  have hlW : w.heap.size < W.heap.size := hrr.lt
  clear hW0
  go_cut [4] from 15 (fun s4 wc => s4 = .pointer (some ⟨W.heap.size, 0, none⟩) ∧ Blk wc W.heap.size 42 [.int .i64 K0, .int .i64 K4, .int .i64 K1, .int .i64 0, .slice none 0 0, .slice none 0 0, .slice none 0 0] ∧ Below W.heap.size W wc)
  case first =>
    refine wp_region_noPanic ?_
    refine wp_region_held_drew (S := Below W.heap.size W) (by kernel_rfl) (Below.refl _ _).drew (fun hHeld => ?_)
    refine wpAnyH_take (i := 0) (v := ?_) rfl (by kernel_rfl) (by kernel_rfl) (by kernel_rfl) (fun _ _ _ h => h) (Or.inl ⟨by rfl, ?_⟩) hHeld ?_
    rotate_left
    · intro w' hSw; try dsimp only at hSw
      go_simp; try (with_reducible rfl)
    try simp only [Act.put, List.getElem_toArray, List.getElem_cons_succ, List.getElem_cons_zero, List.setIfInBounds_toArray, List.set_cons_zero, List.set_cons_succ]
    refine wpAnyH_take (i := 1) (v := ?_) rfl (by kernel_rfl) (by kernel_rfl) (by kernel_rfl) (fun _ _ _ h => h) (Or.inl ⟨by rfl, ?_⟩) hHeld ?_
    rotate_left
    · intro w' hSw; try dsimp only at hSw
      go_simp; try (with_reducible rfl)
    try simp only [Act.put, List.getElem_toArray, List.getElem_cons_succ, List.getElem_cons_zero, List.setIfInBounds_toArray, List.set_cons_zero, List.set_cons_succ]
    refine wpAnyH_take (i := 2) (v := ?_) rfl (by kernel_rfl) (by kernel_rfl) (by kernel_rfl) (fun _ _ _ h => h) (Or.inl ⟨by rfl, ?_⟩) hHeld ?_
    rotate_left
    · intro w' hSw; try dsimp only at hSw
      have d0 := ((bt hb0 hSw).cell (p := ⟨gb, ob, none⟩) hlt').trans e0
      have d1 := ((bt hb0 hSw).cell (p := ⟨gb, ob + 1, none⟩) hlt').trans e1
      go_simp; try (with_reducible rfl)
    try simp only [Act.put, List.getElem_toArray, List.getElem_cons_succ, List.getElem_cons_zero, List.setIfInBounds_toArray, List.set_cons_zero, List.set_cons_succ]
    refine wpAnyH_take (i := 3) (v := ?_) rfl (by kernel_rfl) (by kernel_rfl) (by kernel_rfl) (fun _ _ _ h => h) (Or.inl ⟨by rfl, ?_⟩) hHeld ?_
    rotate_left
    · intro w' hSw; try dsimp only at hSw
      go_simp; try (with_reducible rfl)
    try simp only [Act.put, List.getElem_toArray, List.getElem_cons_succ, List.getElem_cons_zero, List.setIfInBounds_toArray, List.set_cons_zero, List.set_cons_succ]
    refine wpAnyH_take (i := 4) (v := ?_) rfl (by kernel_rfl) (by kernel_rfl) (by kernel_rfl) (fun _ _ _ h => h) (Or.inl ⟨by rfl, ?_⟩) hHeld ?_
    rotate_left
    · intro w' hSw; try dsimp only at hSw
      go_simp; try (with_reducible rfl)
    try simp only [Act.put, List.getElem_toArray, List.getElem_cons_succ, List.getElem_cons_zero, List.setIfInBounds_toArray, List.set_cons_zero, List.set_cons_succ]
    refine wpAnyH_take (i := 5) (v := ?_) rfl (by kernel_rfl) (by kernel_rfl) (by kernel_rfl) (fun _ _ _ h => h) (Or.inl ⟨by rfl, ?_⟩) hHeld ?_
    rotate_left
    · intro w' hSw; try dsimp only at hSw
      go_simp; try (with_reducible rfl)
    try simp only [Act.put, List.getElem_toArray, List.getElem_cons_succ, List.getElem_cons_zero, List.setIfInBounds_toArray, List.set_cons_zero, List.set_cons_succ]
    refine wpAnyH_take (i := 6) (v := ?_) rfl (by kernel_rfl) (by kernel_rfl) (by kernel_rfl) (fun _ _ _ h => h) (Or.inl ⟨by rfl, ?_⟩) hHeld ?_
    rotate_left
    · intro w' hSw; try dsimp only at hSw
      have d0 := ((bt hb0 hSw).cell (p := ⟨gb, ob, none⟩) hlt').trans e0
      have d1 := ((bt hb0 hSw).cell (p := ⟨gb, ob + 1, none⟩) hlt').trans e1
      go_simp; try (with_reducible rfl)
    try simp only [Act.put, List.getElem_toArray, List.getElem_cons_succ, List.getElem_cons_zero, List.setIfInBounds_toArray, List.set_cons_zero, List.set_cons_succ]
    refine wpAnyH_take (i := 7) (v := ?_) rfl (by kernel_rfl) (by kernel_rfl) (by kernel_rfl) (fun _ _ _ h => h) (Or.inl ⟨by rfl, ?_⟩) hHeld ?_
    rotate_left
    · intro w' hSw; try dsimp only at hSw
      go_simp; try (with_reducible rfl)
    try simp only [Act.put, List.getElem_toArray, List.getElem_cons_succ, List.getElem_cons_zero, List.setIfInBounds_toArray, List.set_cons_zero, List.set_cons_succ]
    refine wpAnyH_take (i := 8) (v := ?_) rfl (by kernel_rfl) (by kernel_rfl) (by kernel_rfl) (fun _ _ _ h => h) (Or.inl ⟨by rfl, ?_⟩) hHeld ?_
    rotate_left
    · intro w' hSw; try dsimp only at hSw
      go_simp; try (with_reducible rfl)
    try simp only [Act.put, List.getElem_toArray, List.getElem_cons_succ, List.getElem_cons_zero, List.setIfInBounds_toArray, List.set_cons_zero, List.set_cons_succ]
    refine wpAnyH_take (i := 9) (v := ?_) rfl (by kernel_rfl) (by kernel_rfl) (by kernel_rfl) (fun _ _ _ h => h) (Or.inl ⟨by rfl, ?_⟩) hHeld ?_
    rotate_left
    · intro w' hSw; try dsimp only at hSw
      go_simp; try (with_reducible rfl)
    try simp only [Act.put, List.getElem_toArray, List.getElem_cons_succ, List.getElem_cons_zero, List.setIfInBounds_toArray, List.set_cons_zero, List.set_cons_succ]
    refine wpAnyH_ready (rs := [10, 12]) (by kernel_rfl) (by simp) ?_
    refine AllReadyH.cons rfl (fun K hK => ?_) ?_
    · go_simp
      refine (nG _ (hb.below (bt hb0 hHeld))).mono ?_
      rintro e y1 ⟨rfl, hy1⟩
      have hy2 := hy1.symm
      subst hy2
      clear hy1
      try go_wp2_with fail
      refine hK.out _ _ hHeld (fun hHeld => ?_)
      clear hK K
      try simp only [Act.put, List.getElem_toArray, List.getElem_cons_succ, List.getElem_cons_zero, List.setIfInBounds_toArray, List.set_cons_zero, List.set_cons_succ]
      refine wpAnyH_take (i := 11) (v := ?_) rfl (by kernel_rfl) (by kernel_rfl) (by kernel_rfl) (fun _ _ _ h => h) (Or.inl ⟨by rfl, ?_⟩) hHeld ?_
      rotate_left
      · intro w' hSw; try dsimp only at hSw
        go_simp; try (with_reducible rfl)
      try simp only [Act.put, List.getElem_toArray, List.getElem_cons_succ, List.getElem_cons_zero, List.setIfInBounds_toArray, List.set_cons_zero, List.set_cons_succ]
      refine wpAnyH_ready (rs := [12]) (by kernel_rfl) (by simp) ?_
      refine AllReadyH.cons rfl (fun K hK => ?_) AllReadyH.nil
      go_simp
      refine hK.out _ _ (bt hHeld (below_alloc _ _)) (fun hHeld => ?_)
      clear hK K
      try simp only [Act.put, List.getElem_toArray, List.getElem_cons_succ, List.getElem_cons_zero, List.setIfInBounds_toArray, List.set_cons_zero, List.set_cons_succ]
      refine wpAnyH_ready (rs := [13]) (by kernel_rfl) (by simp) ?_
      refine AllReadyH.cons rfl (fun K hK => ?_) AllReadyH.nil
      rw [if_pos (by rfl)]
      refine wp_store_blk 42 (.tmp 4) _ rfl W.heap.size 0 [.int .i64 K0, .int .i64 K4, .int .i64 K1, .int .i64 0, .slice none 0 0, .slice none 0 0, .slice none 0 0] rfl rfl (Blk.drew (Blk.new' W 42 #[.int .i64 0, .int .i64 0, .int .i64 0, .int .i64 0, .slice none 0 0, .slice none 0 0, .slice none 0 0])) (by show 7 ≤ 7; decide) (mpSize PV.zero MP.zero) (mpOne PV.zero ⟨K0, K4, K1, 0, [], [], []⟩) ?_
      intro w9 h9 ht9
      refine hK.out _ _ (ht9.below hHeld (Nat.le_refl _)) (fun hHeld => ?_)
      clear hK K
      try simp only [Act.put, List.getElem_toArray, List.getElem_cons_succ, List.getElem_cons_zero, List.setIfInBounds_toArray, List.set_cons_zero, List.set_cons_succ]
      refine wpAnyH_done (by kernel_rfl) ?_ _
      refine NoPanic.normal ?_
      go_wp2_with fail
      go_meet
      case rel => exact ⟨rfl, h9, hHeld⟩
    refine AllReadyH.cons rfl (fun K hK => ?_) AllReadyH.nil
    go_simp
    refine hK.out _ _ (bt hHeld (below_alloc _ _)) (fun hHeld => ?_)
    clear hK K
    try simp only [Act.put, List.getElem_toArray, List.getElem_cons_succ, List.getElem_cons_zero, List.setIfInBounds_toArray, List.set_cons_zero, List.set_cons_succ]
    refine wpAnyH_ready (rs := [10]) (by kernel_rfl) (by simp) ?_
    refine AllReadyH.cons rfl (fun K hK => ?_) AllReadyH.nil
    go_simp
    refine (nG _ (hb.below (bt hb0 hHeld))).mono ?_
    rintro e y1 ⟨rfl, hy1⟩
    have hy2 := hy1.symm
    subst hy2
    clear hy1
    try go_wp2_with fail
    refine hK.out _ _ hHeld (fun hHeld => ?_)
    clear hK K
    try simp only [Act.put, List.getElem_toArray, List.getElem_cons_succ, List.getElem_cons_zero, List.setIfInBounds_toArray, List.set_cons_zero, List.set_cons_succ]
    refine wpAnyH_take (i := 11) (v := ?_) rfl (by kernel_rfl) (by kernel_rfl) (by kernel_rfl) (fun _ _ _ h => h) (Or.inl ⟨by rfl, ?_⟩) hHeld ?_
    rotate_left
    · intro w' hSw; try dsimp only at hSw
      go_simp; try (with_reducible rfl)
    try simp only [Act.put, List.getElem_toArray, List.getElem_cons_succ, List.getElem_cons_zero, List.setIfInBounds_toArray, List.set_cons_zero, List.set_cons_succ]
    refine wpAnyH_ready (rs := [13]) (by kernel_rfl) (by simp) ?_
    refine AllReadyH.cons rfl (fun K hK => ?_) AllReadyH.nil
    rw [if_pos (by rfl)]
    refine wp_store_blk 42 (.tmp 4) _ rfl W.heap.size 0 [.int .i64 K0, .int .i64 K4, .int .i64 K1, .int .i64 0, .slice none 0 0, .slice none 0 0, .slice none 0 0] rfl rfl (Blk.drew (Blk.new' W 42 #[.int .i64 0, .int .i64 0, .int .i64 0, .int .i64 0, .slice none 0 0, .slice none 0 0, .slice none 0 0])) (by show 7 ≤ 7; decide) (mpSize PV.zero MP.zero) (mpOne PV.zero ⟨K0, K4, K1, 0, [], [], []⟩) ?_
    intro w9 h9 ht9
    refine hK.out _ _ (ht9.below hHeld (Nat.le_refl _)) (fun hHeld => ?_)
    clear hK K
    try simp only [Act.put, List.getElem_toArray, List.getElem_cons_succ, List.getElem_cons_zero, List.setIfInBounds_toArray, List.set_cons_zero, List.set_cons_succ]
    refine wpAnyH_done (by kernel_rfl) ?_ _
    refine NoPanic.normal ?_
    go_wp2_with fail
    go_meet
    case rel => exact ⟨rfl, h9, hHeld⟩
  case rest =>
    obtain ⟨rfl, hbq, hbw⟩ := hcut
    have hrr2 := hrr.kept hbw
    have hBr : Below w.heap.size w wc := bt hb0 hbw
    have hgq : w.heap.size < W.heap.size := hlW
    clear hrr hbw hb0 hlW hs8 nG hw0 hv0 hw1 hv1 hk00 hk11 e0 e1
    have hrr := hrr2
    clear hrr2
    generalize W.heap.size = gq at *
    obtain ⟨x0, x1, x2, x3, x4, x5, x6⟩ : _ ∧ _ ∧ _ ∧ _ ∧ _ ∧ _ ∧ _ := Blk.cells7 (V := PV.zero) (P := ⟨K0, K4, K1, 0, [], [], []⟩) hbq
    have e2w := (hBr.cell (p := ⟨gb, ob + 2, none⟩) hlt').trans e2
    go_wp2_with fail
    clear x0 x1 x2 x3 x4 x5 x6 e2w hw2 hv2 e2
    have HBR := hBr
    have HRR0 := hrr
    have hbq0 := hbq
    clear hBr hrr hbq
    go_loopw [7] (fun i wr => ∃ (k : Nat) (pr : Option Addr) (cr : Nat), k ≤ m ∧ i = .int .i64 k ∧ Blk wr gq 42 [.int .i64 K0, .int .i64 K4, .int .i64 K1, .int .i64 0, .slice none 0 0, .slice none 0 0, .slice pr k cr] ∧ wr.ownsRow w.heap.size 65 3 (.slice pr k cr) k (flatM ((List.range k).map (rrec xs))) ∧ Below w.heap.size w wr ∧ Blk wr w.heap.size 42 [.int .i64 0, .int .i64 0, .int .i64 0, .int .i64 0, .slice none 0 0, .slice none 0 0, .slice none 0 0]) (fun i _ => m - (intOf i).toNat)
    case atStart => exact ⟨0, none, 0, Nat.zero_le _, rfl, hbq0, ⟨rfl, .inl ⟨rfl, rfl⟩⟩, HBR, HRR0⟩
    case round =>
      obtain ⟨k, pr, cr, hkm, rfl, hbq, hor, hBr, hrr⟩ := hrel
      clear hbq0 HRR0 HBR
      by_cases hlt : k < m
      · have hki : (k : Int) < m := Int.ofNat_lt.2 hlt
        have hA0 : 16 + 10 * k + 10 ≤ 256 := by omega
        have hc0 := HCL.out (16 + 10 * k) (by omega)
        have hc1 := HCL.out (16 + 10 * k + 1) (by omega)
        have hq0 := hb.range (16 + 10 * k)
        have hq1 := hb.range (16 + 10 * k + 1)
        obtain ⟨n1, HN1⟩ : ∃ n1, Hid (256 - (16 + 10 * k) = n1) := ⟨_, rfl⟩
        obtain ⟨c1, HC1⟩ : ∃ c1, Hid (c - (16 + 10 * k) = c1) := ⟨_, rfl⟩
        have hn10 : 10 ≤ n1 := by rw [← HN1.out]; omega
        have hnc : n1 ≤ c1 := by rw [← HN1.out, ← HC1.out]; omega
        have hsl := slice_lo gb ob 256 c (16 + 10 * k) (by omega) hcap
        rw [HN1.out, HC1.out] at hsl
        have hsm : ∀ W : World, (Instr.slice 53 (.slice (some ⟨gb, ob + (16 + 10 * k), none⟩) n1 c1) (some (.int .i64 2)) (some (.int .i64 10)) none).run Try.prog W = .ok (.slice (some ⟨gb, ob + (16 + 10 * k) + 2, none⟩) 8 (c1 - 2)) W := fun W => slice_lh0 gb (ob + (16 + 10 * k)) n1 c1 2 8 10 rfl (by omega) hn10 hnc W
        have nV := fun X (h : In X (some ⟨gb, ob, none⟩) 256 c xs) => number_any (some ⟨gb, ob + (16 + 10 * k) + 2, none⟩) 8 (c1 - 2) (subL xs (16 + 10 * k + 2) 8) X (by have h9 := h.sub0 (16 + 10 * k + 2) 8 (by omega); rw [show ob + (16 + 10 * k) + 2 = ob + (16 + 10 * k + 2) from Nat.add_assoc _ _ _, show c1 - 2 = c - (16 + 10 * k + 2) by rw [← HC1.out]; omega]; exact h9) (by decide)
        obtain ⟨zz, HZZ⟩ : ∃ zz, Hid (wI (numTo (subL xs (16 + 10 * k + 2) 8) 8) = zz) := ⟨_, rfl⟩
        rw [HZZ.out] at nV
        obtain ⟨R0, HR0⟩ : ∃ R0, Hid (el xs (16 + 10 * k) = R0) := ⟨_, rfl⟩
        obtain ⟨R1, HR1⟩ : ∃ R1, Hid (el xs (16 + 10 * k + 1) = R1) := ⟨_, rfl⟩
        rw [HR0.out] at hc0 hq0
        rw [HR1.out] at hc1 hq1
        have HRE : Hid (rrec xs k = ⟨R0, R1, zz⟩) := by show _ = _; rw [← HR0.out, ← HR1.out, ← HZZ.out]; rfl
        clear HZZ HR0 HR1 HN1 HC1
        have f1 : IntKind.i64.wrap (10 * (k : Int)) = ((10 * k : Nat) : Int) := by rw [IntKind.wrap_i64]; omega
        have f2 : IntKind.i64.wrap (16 + ((10 * k : Nat) : Int)) = ((16 + 10 * k : Nat) : Int) := by rw [IntKind.wrap_i64]; omega
        have f3 : IntKind.i64.wrap R0 = R0 := by rw [IntKind.wrap_i64]; omega
        have f4 : IntKind.i64.wrap R1 = R1 := by rw [IntKind.wrap_i64]; omega
        have g1 : wrap64 (10 * (k : Int)) = ((10 * k : Nat) : Int) := (IntWalk.i64_left _).symm.trans f1
        have g2 : wrap64 (16 + ((10 * k : Nat) : Int)) = ((16 + 10 * k : Nat) : Int) := (IntWalk.i64_left _).symm.trans f2
        have g3 : wrap64 R0 = R0 := (IntWalk.i64_left _).symm.trans f3
        have g4 : wrap64 R1 = R1 := (IntWalk.i64_left _).symm.trans f4
        have hn1 : 0 < n1 := by omega
        have hn2 : (1 : Int) < n1 := by omega
        rw [show ob + (16 + 10 * k + 1) = ob + (16 + 10 * k) + 1 from rfl] at hc1
        generalize 16 + 10 * k = A at *
        generalize 10 * k = t3 at *
        clear hq0 hq1 hA0 hn10 hnc
        go_upto_region 17 with (fail)
        refine wp_region_noPanic ?_
        refine wp_region_held_drew (S := Below w.heap.size w) (by kernel_rfl) hBr.drew (fun hHeld => ?_)
        refine wpAnyH_take (i := 0) (v := ?_) rfl (by kernel_rfl) (by kernel_rfl) (by kernel_rfl) (fun _ _ _ h => h) (Or.inl ⟨by rfl, ?_⟩) hHeld ?_
        rotate_left
        · intro w' hSw; try dsimp only at hSw
          go_simp; try (with_reducible rfl)
        try simp only [Act.put, List.getElem_toArray, List.getElem_cons_succ, List.getElem_cons_zero, List.setIfInBounds_toArray, List.set_cons_zero, List.set_cons_succ]
        refine wpAnyH_take (i := 2) (v := ?_) rfl (by kernel_rfl) (by kernel_rfl) (by kernel_rfl) (fun _ _ _ h => h) (Or.inl ⟨by rfl, ?_⟩) hHeld ?_
        rotate_left
        · intro w' hSw; try dsimp only at hSw
          go_simp; try (with_reducible rfl)
        try simp only [Act.put, List.getElem_toArray, List.getElem_cons_succ, List.getElem_cons_zero, List.setIfInBounds_toArray, List.set_cons_zero, List.set_cons_succ]
        refine wpAnyH_take (i := 3) (v := ?_) rfl (by kernel_rfl) (by kernel_rfl) (by kernel_rfl) (fun _ _ _ h => h) (Or.inl ⟨by rfl, ?_⟩) hHeld ?_
        rotate_left
        · intro w' hSw; try dsimp only at hSw
          go_simp; try (with_reducible rfl)
        try simp only [Act.put, List.getElem_toArray, List.getElem_cons_succ, List.getElem_cons_zero, List.setIfInBounds_toArray, List.set_cons_zero, List.set_cons_succ]
        refine wpAnyH_take (i := 4) (v := ?_) rfl (by kernel_rfl) (by kernel_rfl) (by kernel_rfl) (fun _ _ _ h => h) (Or.inl ⟨by rfl, ?_⟩) hHeld ?_
        rotate_left
        · intro w' hSw; try dsimp only at hSw
          have d0 := (hSw.cell (p := ⟨gb, ob + A, none⟩) hlt').trans hc0
          have d1 := (hSw.cell (p := ⟨gb, ob + A + 1, none⟩) hlt').trans hc1
          go_simp; try (with_reducible rfl)
        try simp only [Act.put, List.getElem_toArray, List.getElem_cons_succ, List.getElem_cons_zero, List.setIfInBounds_toArray, List.set_cons_zero, List.set_cons_succ]
        refine wpAnyH_take (i := 5) (v := ?_) rfl (by kernel_rfl) (by kernel_rfl) (by kernel_rfl) (fun _ _ _ h => h) (Or.inl ⟨by rfl, ?_⟩) hHeld ?_
        rotate_left
        · intro w' hSw; try dsimp only at hSw
          go_simp; try (with_reducible rfl)
        try simp only [Act.put, List.getElem_toArray, List.getElem_cons_succ, List.getElem_cons_zero, List.setIfInBounds_toArray, List.set_cons_zero, List.set_cons_succ]
        refine wpAnyH_take (i := 6) (v := ?_) rfl (by kernel_rfl) (by kernel_rfl) (by kernel_rfl) (fun _ _ _ h => h) (Or.inl ⟨by rfl, ?_⟩) hHeld ?_
        rotate_left
        · intro w' hSw; try dsimp only at hSw
          go_simp; try (with_reducible rfl)
        try simp only [Act.put, List.getElem_toArray, List.getElem_cons_succ, List.getElem_cons_zero, List.setIfInBounds_toArray, List.set_cons_zero, List.set_cons_succ]
        refine wpAnyH_take (i := 7) (v := ?_) rfl (by kernel_rfl) (by kernel_rfl) (by kernel_rfl) (fun _ _ _ h => h) (Or.inl ⟨by rfl, ?_⟩) hHeld ?_
        rotate_left
        · intro w' hSw; try dsimp only at hSw
          go_simp; try (with_reducible rfl)
        try simp only [Act.put, List.getElem_toArray, List.getElem_cons_succ, List.getElem_cons_zero, List.setIfInBounds_toArray, List.set_cons_zero, List.set_cons_succ]
        refine wpAnyH_take (i := 8) (v := ?_) rfl (by kernel_rfl) (by kernel_rfl) (by kernel_rfl) (fun _ _ _ h => h) (Or.inl ⟨by rfl, ?_⟩) hHeld ?_
        rotate_left
        · intro w' hSw; try dsimp only at hSw
          have d0 := (hSw.cell (p := ⟨gb, ob + A, none⟩) hlt').trans hc0
          have d1 := (hSw.cell (p := ⟨gb, ob + A + 1, none⟩) hlt').trans hc1
          go_simp; try (with_reducible rfl)
        try simp only [Act.put, List.getElem_toArray, List.getElem_cons_succ, List.getElem_cons_zero, List.setIfInBounds_toArray, List.set_cons_zero, List.set_cons_succ]
        refine wpAnyH_take (i := 9) (v := ?_) rfl (by kernel_rfl) (by kernel_rfl) (by kernel_rfl) (fun _ _ _ h => h) (Or.inl ⟨by rfl, ?_⟩) hHeld ?_
        rotate_left
        · intro w' hSw; try dsimp only at hSw
          go_simp; try (with_reducible rfl)
        try simp only [Act.put, List.getElem_toArray, List.getElem_cons_succ, List.getElem_cons_zero, List.setIfInBounds_toArray, List.set_cons_zero, List.set_cons_succ]
        refine wpAnyH_take (i := 10) (v := ?_) rfl (by kernel_rfl) (by kernel_rfl) (by kernel_rfl) (fun _ _ _ h => h) (Or.inl ⟨by rfl, ?_⟩) hHeld ?_
        rotate_left
        · intro w' hSw; try dsimp only at hSw
          go_simp; try (with_reducible rfl)
        try simp only [Act.put, List.getElem_toArray, List.getElem_cons_succ, List.getElem_cons_zero, List.setIfInBounds_toArray, List.set_cons_zero, List.set_cons_succ]
        refine wpAnyH_take (i := 11) (v := ?_) rfl (by kernel_rfl) (by kernel_rfl) (by kernel_rfl) (fun _ _ _ h => h) (Or.inl ⟨by rfl, ?_⟩) hHeld ?_
        rotate_left
        · intro w' hSw; try dsimp only at hSw
          go_simp; try (with_reducible rfl)
        try simp only [Act.put, List.getElem_toArray, List.getElem_cons_succ, List.getElem_cons_zero, List.setIfInBounds_toArray, List.set_cons_zero, List.set_cons_succ]
        refine wpAnyH_ready (rs := [1, 12]) (by kernel_rfl) (by simp) ?_
        refine AllReadyH.cons rfl (fun K hK => ?_) ?_
        · have ya := (Blk.drew hbq).cell' (i := 6) rfl
          have yb := (Blk.drew (hbq.alloc (.cells #[.int .i64 R0, .int .i64 R1, .int .i64 zz] 65))).cell' (i := 6) rfl
          go_simp
          refine hK.out _ _ hHeld (fun hHeld => ?_)
          clear hK K
          try simp only [Act.put, List.getElem_toArray, List.getElem_cons_succ, List.getElem_cons_zero, List.setIfInBounds_toArray, List.set_cons_zero, List.set_cons_succ]
          refine wpAnyH_ready (rs := [12]) (by kernel_rfl) (by simp) ?_
          refine AllReadyH.cons rfl (fun K hK => ?_) AllReadyH.nil
          go_simp
          refine (nV _ (hb.below hHeld)).mono ?_
          rintro e y1 ⟨rfl, hy1⟩
          have hy2 := hy1.symm
          subst hy2
          clear hy1
          try go_wp2_with fail
          refine hK.out _ _ hHeld (fun hHeld => ?_)
          clear hK K
          try simp only [Act.put, List.getElem_toArray, List.getElem_cons_succ, List.getElem_cons_zero, List.setIfInBounds_toArray, List.set_cons_zero, List.set_cons_succ]
          refine wpAnyH_take (i := 13) (v := ?_) rfl (by kernel_rfl) (by kernel_rfl) (by kernel_rfl) (fun _ _ _ h => h) (Or.inl ⟨by rfl, ?_⟩) hHeld ?_
          rotate_left
          · intro w' hSw; try dsimp only at hSw
            go_simp; try (with_reducible rfl)
          try simp only [Act.put, List.getElem_toArray, List.getElem_cons_succ, List.getElem_cons_zero, List.setIfInBounds_toArray, List.set_cons_zero, List.set_cons_succ]
          refine wpAnyH_ready (rs := [14]) (by kernel_rfl) (by simp) ?_
          refine AllReadyH.cons rfl (fun K hK => ?_) AllReadyH.nil
          go_simp
          refine hK.out _ _ (bt hHeld (below_alloc _ _)) (fun hHeld => ?_)
          clear hK K
          try simp only [Act.put, List.getElem_toArray, List.getElem_cons_succ, List.getElem_cons_zero, List.setIfInBounds_toArray, List.set_cons_zero, List.set_cons_succ]
          have horL := owns_below hor ((below_alloc wr (.cells #[.int .i64 R0, .int .i64 R1, .int .i64 zz] 65)).drew)
          have hbqL := hbq.kept ((below_alloc wr (.cells #[.int .i64 R0, .int .i64 R1, .int .i64 zz] 65)).drew)
          have hrrL := hrr.kept ((below_alloc wr (.cells #[.int .i64 R0, .int .i64 R1, .int .i64 zz] 65)).drew)
          have hlitL : Blk (wr.alloc (.cells #[.int .i64 R0, .int .i64 R1, .int .i64 zz] 65)).drew wr.heap.size 65 [.int .i64 R0, .int .i64 R1, .int .i64 zz] := (Blk.new' wr 65 #[.int .i64 R0, .int .i64 R1, .int .i64 zz]).drew
          have HLN : ((List.range k).map (rrec xs)).length = k := by simp
          refine wpAnyH_ready (rs := [15]) (by kernel_rfl) (by simp) ?_
          refine AllReadyH.cons rfl (fun K hK => ?_) AllReadyH.nil
          rw [if_pos (by rfl)]
          refine wp_append_rec1 (.tmp 96) (.tmp 109) rfl w.heap.size _ ((List.range k).map (rrec xs)) ⟨R0, R1, zz⟩ _ wr.heap.size rfl (by rw [HLN]; exact horL) rfl hlitL (by rw [HLN]; omega) hHeld.size ?_
          intro p7 c7 w7 ho7 hg7 hb7
          rw [HLN] at ho7 ⊢
          refine hK.out _ _ (hHeld.trans hb7) (fun hHeld => ?_)
          clear hK K
          try simp only [Act.put, List.getElem_toArray, List.getElem_cons_succ, List.getElem_cons_zero, List.setIfInBounds_toArray, List.set_cons_zero, List.set_cons_succ]
          have hbq7 := hbqL.grownE horL (by decide) hg7
          have hrr7 := hrrL.grownE horL (by decide) hg7
          refine wpAnyH_take (i := 16) (v := ?_) rfl (by kernel_rfl) (by kernel_rfl) (by kernel_rfl) (fun _ _ _ h => h) (Or.inl ⟨by rfl, ?_⟩) hHeld ?_
          rotate_left
          · intro w' hSw; try dsimp only at hSw
            go_simp; try (with_reducible rfl)
          try simp only [Act.put, List.getElem_toArray, List.getElem_cons_succ, List.getElem_cons_zero, List.setIfInBounds_toArray, List.set_cons_zero, List.set_cons_succ]
          refine wpAnyH_ready (rs := [17]) (by kernel_rfl) (by simp) ?_
          refine AllReadyH.cons rfl (fun K hK => ?_) AllReadyH.nil
          rw [if_pos (by rfl)]
          refine wp_store_cell 34 (.tmp 111) (.tmp 110) rfl gq 6 (.slice p7 (k + 1) c7) rfl rfl hbq7 (by show 6 < 7; decide) sizeRs rfl ?_
          intro w8 hb8 ht8
          refine hK.out _ _ (ht8.below hHeld (Nat.le_of_lt hgq)) (fun hHeld => ?_)
          clear hK K
          try simp only [Act.put, List.getElem_toArray, List.getElem_cons_succ, List.getElem_cons_zero, List.setIfInBounds_toArray, List.set_cons_zero, List.set_cons_succ]
          refine wpAnyH_done (by kernel_rfl) ?_ _
          refine NoPanic.normal ?_
          go_wp2_with fail
          go_roundw
          case rel =>
            refine ⟨k + 1, p7, c7, by omega, by go_num, hb8, ?_, hHeld, hrr7.turned ht8 (Nat.ne_of_lt hgq)⟩
            rw [rangeR_snoc, HRE.out]
            exact owns_turned ho7 ht8 (owns_blk_ne (by decide) ho7 hbq7)
          case measure => simp [intOf]; omega
        refine AllReadyH.cons rfl (fun K hK => ?_) AllReadyH.nil
        go_simp
        refine (nV _ (hb.below hHeld)).mono ?_
        rintro e y1 ⟨rfl, hy1⟩
        have hy2 := hy1.symm
        subst hy2
        clear hy1
        try go_wp2_with fail
        refine hK.out _ _ hHeld (fun hHeld => ?_)
        clear hK K
        try simp only [Act.put, List.getElem_toArray, List.getElem_cons_succ, List.getElem_cons_zero, List.setIfInBounds_toArray, List.set_cons_zero, List.set_cons_succ]
        refine wpAnyH_take (i := 13) (v := ?_) rfl (by kernel_rfl) (by kernel_rfl) (by kernel_rfl) (fun _ _ _ h => h) (Or.inl ⟨by rfl, ?_⟩) hHeld ?_
        rotate_left
        · intro w' hSw; try dsimp only at hSw
          go_simp; try (with_reducible rfl)
        try simp only [Act.put, List.getElem_toArray, List.getElem_cons_succ, List.getElem_cons_zero, List.setIfInBounds_toArray, List.set_cons_zero, List.set_cons_succ]
        refine wpAnyH_ready (rs := [1, 14]) (by kernel_rfl) (by simp) ?_
        refine AllReadyH.cons rfl (fun K hK => ?_) ?_
        · have ya := (Blk.drew hbq).cell' (i := 6) rfl
          have yb := (Blk.drew (hbq.alloc (.cells #[.int .i64 R0, .int .i64 R1, .int .i64 zz] 65))).cell' (i := 6) rfl
          go_simp
          refine hK.out _ _ hHeld (fun hHeld => ?_)
          clear hK K
          try simp only [Act.put, List.getElem_toArray, List.getElem_cons_succ, List.getElem_cons_zero, List.setIfInBounds_toArray, List.set_cons_zero, List.set_cons_succ]
          refine wpAnyH_ready (rs := [14]) (by kernel_rfl) (by simp) ?_
          refine AllReadyH.cons rfl (fun K hK => ?_) AllReadyH.nil
          go_simp
          refine hK.out _ _ (bt hHeld (below_alloc _ _)) (fun hHeld => ?_)
          clear hK K
          try simp only [Act.put, List.getElem_toArray, List.getElem_cons_succ, List.getElem_cons_zero, List.setIfInBounds_toArray, List.set_cons_zero, List.set_cons_succ]
          have horL := owns_below hor ((below_alloc wr (.cells #[.int .i64 R0, .int .i64 R1, .int .i64 zz] 65)).drew)
          have hbqL := hbq.kept ((below_alloc wr (.cells #[.int .i64 R0, .int .i64 R1, .int .i64 zz] 65)).drew)
          have hrrL := hrr.kept ((below_alloc wr (.cells #[.int .i64 R0, .int .i64 R1, .int .i64 zz] 65)).drew)
          have hlitL : Blk (wr.alloc (.cells #[.int .i64 R0, .int .i64 R1, .int .i64 zz] 65)).drew wr.heap.size 65 [.int .i64 R0, .int .i64 R1, .int .i64 zz] := (Blk.new' wr 65 #[.int .i64 R0, .int .i64 R1, .int .i64 zz]).drew
          have HLN : ((List.range k).map (rrec xs)).length = k := by simp
          refine wpAnyH_ready (rs := [15]) (by kernel_rfl) (by simp) ?_
          refine AllReadyH.cons rfl (fun K hK => ?_) AllReadyH.nil
          rw [if_pos (by rfl)]
          refine wp_append_rec1 (.tmp 96) (.tmp 109) rfl w.heap.size _ ((List.range k).map (rrec xs)) ⟨R0, R1, zz⟩ _ wr.heap.size rfl (by rw [HLN]; exact horL) rfl hlitL (by rw [HLN]; omega) hHeld.size ?_
          intro p7 c7 w7 ho7 hg7 hb7
          rw [HLN] at ho7 ⊢
          refine hK.out _ _ (hHeld.trans hb7) (fun hHeld => ?_)
          clear hK K
          try simp only [Act.put, List.getElem_toArray, List.getElem_cons_succ, List.getElem_cons_zero, List.setIfInBounds_toArray, List.set_cons_zero, List.set_cons_succ]
          have hbq7 := hbqL.grownE horL (by decide) hg7
          have hrr7 := hrrL.grownE horL (by decide) hg7
          refine wpAnyH_take (i := 16) (v := ?_) rfl (by kernel_rfl) (by kernel_rfl) (by kernel_rfl) (fun _ _ _ h => h) (Or.inl ⟨by rfl, ?_⟩) hHeld ?_
          rotate_left
          · intro w' hSw; try dsimp only at hSw
            go_simp; try (with_reducible rfl)
          try simp only [Act.put, List.getElem_toArray, List.getElem_cons_succ, List.getElem_cons_zero, List.setIfInBounds_toArray, List.set_cons_zero, List.set_cons_succ]
          refine wpAnyH_ready (rs := [17]) (by kernel_rfl) (by simp) ?_
          refine AllReadyH.cons rfl (fun K hK => ?_) AllReadyH.nil
          rw [if_pos (by rfl)]
          refine wp_store_cell 34 (.tmp 111) (.tmp 110) rfl gq 6 (.slice p7 (k + 1) c7) rfl rfl hbq7 (by show 6 < 7; decide) sizeRs rfl ?_
          intro w8 hb8 ht8
          refine hK.out _ _ (ht8.below hHeld (Nat.le_of_lt hgq)) (fun hHeld => ?_)
          clear hK K
          try simp only [Act.put, List.getElem_toArray, List.getElem_cons_succ, List.getElem_cons_zero, List.setIfInBounds_toArray, List.set_cons_zero, List.set_cons_succ]
          refine wpAnyH_done (by kernel_rfl) ?_ _
          refine NoPanic.normal ?_
          go_wp2_with fail
          go_roundw
          case rel =>
            refine ⟨k + 1, p7, c7, by omega, by go_num, hb8, ?_, hHeld, hrr7.turned ht8 (Nat.ne_of_lt hgq)⟩
            rw [rangeR_snoc, HRE.out]
            exact owns_turned ho7 ht8 (owns_blk_ne (by decide) ho7 hbq7)
          case measure => simp [intOf]; omega
        refine AllReadyH.cons rfl (fun K hK => ?_) AllReadyH.nil
        go_simp
        refine hK.out _ _ (bt hHeld (below_alloc _ _)) (fun hHeld => ?_)
        clear hK K
        try simp only [Act.put, List.getElem_toArray, List.getElem_cons_succ, List.getElem_cons_zero, List.setIfInBounds_toArray, List.set_cons_zero, List.set_cons_succ]
        refine wpAnyH_ready (rs := [1]) (by kernel_rfl) (by simp) ?_
        refine AllReadyH.cons rfl (fun K hK => ?_) AllReadyH.nil
        have ya := (Blk.drew hbq).cell' (i := 6) rfl
        have yb := (Blk.drew (hbq.alloc (.cells #[.int .i64 R0, .int .i64 R1, .int .i64 zz] 65))).cell' (i := 6) rfl
        go_simp
        refine hK.out _ _ hHeld (fun hHeld => ?_)
        clear hK K
        try simp only [Act.put, List.getElem_toArray, List.getElem_cons_succ, List.getElem_cons_zero, List.setIfInBounds_toArray, List.set_cons_zero, List.set_cons_succ]
        have horL := owns_below hor ((below_alloc wr (.cells #[.int .i64 R0, .int .i64 R1, .int .i64 zz] 65)).drew)
        have hbqL := hbq.kept ((below_alloc wr (.cells #[.int .i64 R0, .int .i64 R1, .int .i64 zz] 65)).drew)
        have hrrL := hrr.kept ((below_alloc wr (.cells #[.int .i64 R0, .int .i64 R1, .int .i64 zz] 65)).drew)
        have hlitL : Blk (wr.alloc (.cells #[.int .i64 R0, .int .i64 R1, .int .i64 zz] 65)).drew wr.heap.size 65 [.int .i64 R0, .int .i64 R1, .int .i64 zz] := (Blk.new' wr 65 #[.int .i64 R0, .int .i64 R1, .int .i64 zz]).drew
        have HLN : ((List.range k).map (rrec xs)).length = k := by simp
        refine wpAnyH_ready (rs := [15]) (by kernel_rfl) (by simp) ?_
        refine AllReadyH.cons rfl (fun K hK => ?_) AllReadyH.nil
        rw [if_pos (by rfl)]
        refine wp_append_rec1 (.tmp 96) (.tmp 109) rfl w.heap.size _ ((List.range k).map (rrec xs)) ⟨R0, R1, zz⟩ _ wr.heap.size rfl (by rw [HLN]; exact horL) rfl hlitL (by rw [HLN]; omega) hHeld.size ?_
        intro p7 c7 w7 ho7 hg7 hb7
        rw [HLN] at ho7 ⊢
        refine hK.out _ _ (hHeld.trans hb7) (fun hHeld => ?_)
        clear hK K
        try simp only [Act.put, List.getElem_toArray, List.getElem_cons_succ, List.getElem_cons_zero, List.setIfInBounds_toArray, List.set_cons_zero, List.set_cons_succ]
        have hbq7 := hbqL.grownE horL (by decide) hg7
        have hrr7 := hrrL.grownE horL (by decide) hg7
        refine wpAnyH_take (i := 16) (v := ?_) rfl (by kernel_rfl) (by kernel_rfl) (by kernel_rfl) (fun _ _ _ h => h) (Or.inl ⟨by rfl, ?_⟩) hHeld ?_
        rotate_left
        · intro w' hSw; try dsimp only at hSw
          go_simp; try (with_reducible rfl)
        try simp only [Act.put, List.getElem_toArray, List.getElem_cons_succ, List.getElem_cons_zero, List.setIfInBounds_toArray, List.set_cons_zero, List.set_cons_succ]
        refine wpAnyH_ready (rs := [17]) (by kernel_rfl) (by simp) ?_
        refine AllReadyH.cons rfl (fun K hK => ?_) AllReadyH.nil
        rw [if_pos (by rfl)]
        refine wp_store_cell 34 (.tmp 111) (.tmp 110) rfl gq 6 (.slice p7 (k + 1) c7) rfl rfl hbq7 (by show 6 < 7; decide) sizeRs rfl ?_
        intro w8 hb8 ht8
        refine hK.out _ _ (ht8.below hHeld (Nat.le_of_lt hgq)) (fun hHeld => ?_)
        clear hK K
        try simp only [Act.put, List.getElem_toArray, List.getElem_cons_succ, List.getElem_cons_zero, List.setIfInBounds_toArray, List.set_cons_zero, List.set_cons_succ]
        refine wpAnyH_done (by kernel_rfl) ?_ _
        refine NoPanic.normal ?_
        go_wp2_with fail
        go_roundw
        case rel =>
          refine ⟨k + 1, p7, c7, by omega, by go_num, hb8, ?_, hHeld, hrr7.turned ht8 (Nat.ne_of_lt hgq)⟩
          rw [rangeR_snoc, HRE.out]
          exact owns_turned ho7 ht8 (owns_blk_ne (by decide) ho7 hbq7)
        case measure => simp [intOf]; omega
      · obtain rfl : k = m := by omega
        obtain ⟨Vq, HVQ⟩ : ∃ Vq, Hid (Vq = (⟨none, 0, 0, none, 0, 0, pr, k, cr⟩ : PV)) := ⟨_, rfl⟩
        have hbq2 : Blk wr gq 42 (Vq.cells Q) := by rw [HVQ.out, HRD.out]; exact hbq
        have hoq : OwnP w.heap.size wr Vq Q := by rw [HVQ.out, HRD.out]; exact ⟨⟨rfl, .inl ⟨rfl, rfl⟩⟩, ⟨rfl, .inl ⟨rfl, rfl⟩⟩, hor, Nat.zero_le _, Nat.zero_le _, by show k ≤ _; omega⟩
        clear HRD HVQ hor HCL HMM
        go_upto_region 18 with (fail)
        clear hbq
        have hbq := hbq2
        clear hbq2
        cases hok : okMP Q with
        | false =>
          have hr := HR.out.trans (if_neg (fun h => by rw [hok] at h; cases h.1))
          have HOK : Hid (okMP Q = false) := hok
          clear HR hok
          subst hr
          obtain ⟨x0, x1, x2, x3, x4, x5, x6⟩ := hbq.cells7
          have HY := fun V X (h : InP X V Q) => rbytes_any V Q X h
          rw [bytesR_no HOK.out] at HY
          go_wp2_with (first
            | (go_at_call 35; refine (HY Vq _ hoq.inP).mono ?_; rintro e w2 ⟨p2, n2, c2, rfl, hin2, hb2⟩; dsimp only; have r2 := hrr.kept hb2)
            | (guard_target = wpList _ _ _ (Oper.mk _ (Op.store 42 (Operand.tmp 2) (Operand.tmp 126)) _ _ _ _ :: _) _ _; refine wpList_store_blk rfl 42 (.tmp 2) (.tmp 126) rfl _ _ (PV.cells PV.zero MP.zero) rfl rfl r2 (by show 7 ≤ 7; decide) (mpSize PV.zero MP.zero) (mpOne PV.zero MP.zero) ?_; intro w9 h9 ht9))
          have h9' : Blk w9 w.heap.size 42 (PV.zero.cells MP.zero) := h9
          refine ret_mpE Try.results37 rfl h9' rfl rfl ?_
          exact ⟨PV.zero, rfl, ownP_zero _ _, ht9.below (bt hBr hb2) (Nat.le_refl _)⟩
        | true =>
          by_cases heq : writeL Q = xs
          · have hr := HR.out.trans (if_pos ⟨hok, heq⟩)
            have HOK : Hid (okMP Q = true) := hok
            have HEQ : Hid ((writeL Q == xs) = true) := by show _ = _; rw [heq]; exact beq_self_eq_true _
            clear HR hok heq
            subst hr
            obtain ⟨x0, x1, x2, x3, x4, x5, x6⟩ := hbq.cells7
            have HY := fun V X (h : InP X V Q) => rbytes_any V Q X h
            rw [bytesR_ok HOK.out] at HY
            have HYB : Hid (∀ x ∈ writeL Q, x < 256) := writeL_byte Q
            generalize writeL Q = Yq at *
            have hse : ((strOfNums (Yq.map fun x : Nat => (x : Int))).toList == (strOfNums (xs.map fun x : Nat => (x : Int))).toList) = true := by rw [str_eq HYB.out hb.byte]; exact HEQ.out
            have cv1 := fun X p n c (h : In X p n c Yq) => conv_in h
            have cv2 := fun X (h : In X (some ⟨gb, ob, none⟩) 256 c xs) => conv_in h
            generalize strOfNums (Yq.map fun x : Nat => (x : Int)) = s1 at *
            generalize strOfNums (xs.map fun x : Nat => (x : Int)) = s2 at *
            have hsn : (s1.toList != s2.toList) = false := by simp only [bne, hse]; rfl
            go_wp2_with (first
              | (go_at_call 35; refine (HY Vq _ hoq.inP).mono ?_; rintro e w2 ⟨p2, n2, c2, rfl, hin2, hb2⟩; dsimp only at hin2 ⊢; have r2 := hrr.kept hb2; have hB2 := bt hBr hb2; have e1 := cv1 _ _ _ _ hin2; have e2 := cv2 _ (hb.below hB2); have hoq2 := hoq.next hb2; have hbq2 := hbq.kept hb2; obtain ⟨x0, x1, x2, x3, x4, x5, x6⟩ := hbq2.cells7)
              | (guard_target = wpList _ _ _ (Oper.mk _ (Op.store 42 (Operand.tmp 2) (Operand.tmp 127)) _ _ _ _ :: _) _ _; refine wpList_store_blk rfl 42 (.tmp 2) (.tmp 127) rfl _ _ (PV.cells Vq Q) rfl rfl r2 (by show 7 ≤ 7; decide) (mpSize Vq Q) (mpOne Vq Q) ?_; intro w9 h9 ht9))
            have h9' : Blk w9 w.heap.size 42 (Vq.cells Q) := h9
            refine ret_mpE Try.results37 rfl h9' rfl rfl ?_
            exact ⟨Vq, rfl, hoq2.turned ht9 r2 (by decide) (by decide) (by decide), ht9.below hB2 (Nat.le_refl _)⟩
          · have hr := HR.out.trans (if_neg (fun h => heq h.2))
            have HOK : Hid (okMP Q = true) := hok
            have HEQ : Hid ((writeL Q == xs) = false) := by show _ = _; exact beq_eq_false_iff_ne.2 heq
            clear HR hok heq
            subst hr
            obtain ⟨x0, x1, x2, x3, x4, x5, x6⟩ := hbq.cells7
            have HY := fun V X (h : InP X V Q) => rbytes_any V Q X h
            rw [bytesR_ok HOK.out] at HY
            have HYB : Hid (∀ x ∈ writeL Q, x < 256) := writeL_byte Q
            generalize writeL Q = Yq at *
            have hse : ((strOfNums (Yq.map fun x : Nat => (x : Int))).toList == (strOfNums (xs.map fun x : Nat => (x : Int))).toList) = false := by rw [str_eq HYB.out hb.byte]; exact HEQ.out
            have cv1 := fun X p n c (h : In X p n c Yq) => conv_in h
            have cv2 := fun X (h : In X (some ⟨gb, ob, none⟩) 256 c xs) => conv_in h
            generalize strOfNums (Yq.map fun x : Nat => (x : Int)) = s1 at *
            generalize strOfNums (xs.map fun x : Nat => (x : Int)) = s2 at *
            have hsn : (s1.toList != s2.toList) = true := by simp only [bne, hse]; rfl
            go_wp2_with (first
              | (go_at_call 35; refine (HY Vq _ hoq.inP).mono ?_; rintro e w2 ⟨p2, n2, c2, rfl, hin2, hb2⟩; dsimp only at hin2 ⊢; have r2 := hrr.kept hb2; have hB2 := bt hBr hb2; have e1 := cv1 _ _ _ _ hin2; have e2 := cv2 _ (hb.below hB2); have hoq2 := hoq.next hb2; have hbq2 := hbq.kept hb2; obtain ⟨x0, x1, x2, x3, x4, x5, x6⟩ := hbq2.cells7)
              | (guard_target = wpList _ _ _ (Oper.mk _ (Op.store 42 (Operand.tmp 2) (Operand.tmp 126)) _ _ _ _ :: _) _ _; refine wpList_store_blk rfl 42 (.tmp 2) (.tmp 126) rfl _ _ (PV.cells PV.zero MP.zero) rfl rfl r2 (by show 7 ≤ 7; decide) (mpSize PV.zero MP.zero) (mpOne PV.zero MP.zero) ?_; intro w9 h9 ht9))
            have h9' : Blk w9 w.heap.size 42 (PV.zero.cells MP.zero) := h9
            refine ret_mpE Try.results37 rfl h9' rfl rfl ?_
            exact ⟨PV.zero, rfl, ownP_zero _ _, ht9.below hB2 (Nat.le_refl _)⟩
end Go.Proofs.Ytpikaagdiafieaa
