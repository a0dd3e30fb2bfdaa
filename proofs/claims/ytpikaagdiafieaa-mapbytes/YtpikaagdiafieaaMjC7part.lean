/-
  What the reference's Parse answers, by case.
-/
import Derived.Test.YtpikaagdiafieaaMjC6
import Derived.Deep.CutRange
namespace Go.Proofs.Ytpikaagdiafieaa
open Go.RowKit
set_option linter.unusedSimpArgs false in
set_option linter.unusedVariables false in
set_option maxRecDepth 100000 in
set_option maxHeartbeats 8000000 in
theorem rparse_part (gb ob c : Nat) (xs : List Nat) (w : World) (hb : In w (some ⟨gb, ob, none⟩) 256 c xs) (hk : rkind xs = 1) (hm : rmany xs ≤ 64) (R : MP × Int) (hR : R = if okMP (rreadP xs) = true ∧ writeL (rreadP xs) = xs then (rreadP xs, 0) else (MP.zero, 62)) :
    Calls Try.prog 37 #[.slice (some ⟨gb, ob, none⟩) 256 c] w (ResP w R) := by
  have hrr := Blk.new' w 42 #[.int .i64 0, .int .i64 0, .int .i64 0, .int .i64 0, .slice none 0 0, .slice none 0 0, .slice none 0 0]
  have hb0 := below_alloc w (.cells #[.int .i64 0, .int .i64 0, .int .i64 0, .int .i64 0, .slice none 0 0, .slice none 0 0, .slice none 0 0] 42)
  have hcap := hb.cap
  obtain ⟨gb', ob', hp', hlt', hcl⟩ := hb.at' (by decide)
  cases hp'
  have HR : Hid (R = if okMP (rreadP xs) = true ∧ writeL (rreadP xs) = xs then (rreadP xs, 0) else (MP.zero, 62)) := hR
  have HRD : Hid (rreadP xs = ⟨rkind xs, rgen xs, rpart xs, rseq xs, (List.range (rmany xs)).map (rbad xs), (List.range (rmany xs)).map (rwear xs), []⟩) := by show _ = _; unfold rreadP; rw [if_pos ⟨hk, hm⟩]
  clear hR
  generalize rreadP xs = Q at *
  have e0 : w.cell? ⟨gb, ob, none⟩ = some (.int .u8 (rkind xs)) := by have := hcl 0 (by decide); rw [Nat.add_zero] at this; exact this
  have e1 : w.cell? ⟨gb, ob + 1, none⟩ = some (.int .u8 (rpart xs)) := hcl 1 (by decide)
  have e2 : w.cell? ⟨gb, ob + 2, none⟩ = some (.int .u8 ((rmany xs : Nat) : Int)) := hcl 2 (by decide)
  have hr0 := hb.range 0
  have hr1 := hb.range 1
  have hr2 := hb.range 2
  have hk00 : 0 ≤ rkind xs ∧ rkind xs ≤ 255 := hr0
  have hk11 : 0 ≤ rpart xs ∧ rpart xs ≤ 255 := hr1
  have hk22 : rmany xs ≤ 255 := by have h := hr2.2; have : ((rmany xs : Nat) : Int) ≤ 255 := h; omega
  have hw0 : IntKind.i64.wrap (rkind xs) = rkind xs := by rw [IntKind.wrap_i64]; omega
  have hw1 : IntKind.i64.wrap (rpart xs) = rpart xs := by rw [IntKind.wrap_i64]; omega
  have hw2 : IntKind.i64.wrap ((rmany xs : Nat) : Int) = ((rmany xs : Nat) : Int) := by rw [IntKind.wrap_i64]; omega
  have hv0 : wrap64 (rkind xs) = rkind xs := (IntWalk.i64_left _).symm.trans hw0
  have hv1 : wrap64 (rpart xs) = rpart xs := (IntWalk.i64_left _).symm.trans hw1
  have hv2 : wrap64 ((rmany xs : Nat) : Int) = ((rmany xs : Nat) : Int) := (IntWalk.i64_left _).symm.trans hw2
  have hs8 : ∀ W : World, (Instr.slice 53 (.slice (some ⟨gb, ob, none⟩) 256 c) (some (.int .i64 8)) (some (.int .i64 16)) none).run Try.prog W = .ok (.slice (some ⟨gb, ob + 8, none⟩) 8 (c - 8)) W := fun W => slice_lh0 gb ob 256 c 8 8 16 rfl (by decide) (by decide) hcap W
  have nG := fun X (h : In X (some ⟨gb, ob, none⟩) 256 c xs) => number_any (some ⟨gb, ob + 8, none⟩) 8 (c - 8) (subL xs 8 8) X (h.sub0 8 8 (by decide)) (by decide)
  rw [show wI (numTo (subL xs 8 8) 8) = rgen xs from rfl] at nG
  have bk1 : (rkind xs == 1) = true := by simpa using hk
  have bk2 : (rkind xs == 2) = false := by rw [hk]; rfl
  have bm : ((rmany xs : Nat) : Int) ≤ 64 := Int.ofNat_le.2 hm
  have hs16 : ∀ W : World, (Instr.slice 53 (.slice (some ⟨gb, ob, none⟩) 256 c) (some (.int .i64 16)) (some (.int .i64 24)) none).run Try.prog W = .ok (.slice (some ⟨gb, ob + 16, none⟩) 8 (c - 16)) W := fun W => slice_lh0 gb ob 256 c 16 8 24 rfl (by decide) (by decide) hcap W
  have nS := fun X (h : In X (some ⟨gb, ob, none⟩) 256 c xs) => number_any (some ⟨gb, ob + 16, none⟩) 8 (c - 16) (subL xs 16 8) X (h.sub0 16 8 (by decide)) (by decide)
  rw [show wI (numTo (subL xs 16 8) 8) = rseq xs from rfl] at nS
  clear hk
  generalize rgen xs = K4 at *
  generalize rkind xs = K0 at *
  generalize rpart xs = K1 at *
  generalize rseq xs = K3 at *
  obtain ⟨m, HMM⟩ : ∃ m, Hid (rmany xs = m) := ⟨_, rfl⟩
  rw [HMM.out] at e2 hw2 hv2 hk22 HRD hm bm
  clear hr0 hr1 hr2
  have HCL : Hid (∀ i, i < 256 → w.cell? ⟨gb, ob + i, none⟩ = some (.int .u8 (el xs i))) := hcl
  clear hcl
  go_enter Try.func37, Try.ntmps37
  go_upto_region 3 with (fail)
  generalize hW0 : w.alloc (.cells #[.int .i64 0, .int .i64 0, .int .i64 0, .int .i64 0, .slice none 0 0, .slice none 0 0, .slice none 0 0] 42) = W at *
  have hlW : w.heap.size < W.heap.size := hrr.lt
  clear hW0
  go_cut [4] from 15 (fun s4 wc => s4 = .pointer (some ⟨W.heap.size, 0, none⟩) ∧ Blk wc W.heap.size 42 [.int .i64 K0, .int .i64 K4, .int .i64 K1, .int .i64 0, .slice none 0 0, .slice none 0 0, .slice none 0 0] ∧ Below W.heap.size W wc)
  case first =>
    refine wp_region_noPanic ?_
    refine wp_region_held_drew (S := Below W.heap.size W) (by kernel_rfl) (Below.refl _ _).drew (fun hHeld => ?_)
    refine wpAnyH_take (i := 0) (v := ?_) rfl (by kernel_rfl) (by kernel_rfl) (by kernel_rfl) (fun _ _ _ h => h) (Or.inl ⟨by rfl, ?_⟩) hHeld ?_
    rotate_left
    · intro w' hSw; try dsimp only at hSw
      go_simp; try (with_reducible rfl)
    try simp only [Act.put, List.getElem_toArray, List.getElem_cons_succ, List.getElem_cons_zero, List.setIfInBounds_toArray, List.set_cons_zero, List.set_cons_succ]
    refine wpAnyH_take (i := 1) (v := ?_) rfl (by kernel_rfl) (by kernel_rfl) (by kernel_rfl) (fun _ _ _ h => h) (Or.inl ⟨by rfl, ?_⟩) hHeld ?_
    rotate_left
    · intro w' hSw; try dsimp only at hSw
      go_simp; try (with_reducible rfl)
    try simp only [Act.put, List.getElem_toArray, List.getElem_cons_succ, List.getElem_cons_zero, List.setIfInBounds_toArray, List.set_cons_zero, List.set_cons_succ]
    refine wpAnyH_take (i := 2) (v := ?_) rfl (by kernel_rfl) (by kernel_rfl) (by kernel_rfl) (fun _ _ _ h => h) (Or.inl ⟨by rfl, ?_⟩) hHeld ?_
    rotate_left
    · intro w' hSw; try dsimp only at hSw
      have d0 := ((bt hb0 hSw).cell (p := ⟨gb, ob, none⟩) hlt').trans e0
      have d1 := ((bt hb0 hSw).cell (p := ⟨gb, ob + 1, none⟩) hlt').trans e1
      go_simp; try (with_reducible rfl)
    try simp only [Act.put, List.getElem_toArray, List.getElem_cons_succ, List.getElem_cons_zero, List.setIfInBounds_toArray, List.set_cons_zero, List.set_cons_succ]
    refine wpAnyH_take (i := 3) (v := ?_) rfl (by kernel_rfl) (by kernel_rfl) (by kernel_rfl) (fun _ _ _ h => h) (Or.inl ⟨by rfl, ?_⟩) hHeld ?_
    rotate_left
    · intro w' hSw; try dsimp only at hSw
      go_simp; try (with_reducible rfl)
    try simp only [Act.put, List.getElem_toArray, List.getElem_cons_succ, List.getElem_cons_zero, List.setIfInBounds_toArray, List.set_cons_zero, List.set_cons_succ]
    refine wpAnyH_take (i := 4) (v := ?_) rfl (by kernel_rfl) (by kernel_rfl) (by kernel_rfl) (fun _ _ _ h => h) (Or.inl ⟨by rfl, ?_⟩) hHeld ?_
    rotate_left
    · intro w' hSw; try dsimp only at hSw
      go_simp; try (with_reducible rfl)
    try simp only [Act.put, List.getElem_toArray, List.getElem_cons_succ, List.getElem_cons_zero, List.setIfInBounds_toArray, List.set_cons_zero, List.set_cons_succ]
    refine wpAnyH_take (i := 5) (v := ?_) rfl (by kernel_rfl) (by kernel_rfl) (by kernel_rfl) (fun _ _ _ h => h) (Or.inl ⟨by rfl, ?_⟩) hHeld ?_
    rotate_left
    · intro w' hSw; try dsimp only at hSw
      go_simp; try (with_reducible rfl)
    try simp only [Act.put, List.getElem_toArray, List.getElem_cons_succ, List.getElem_cons_zero, List.setIfInBounds_toArray, List.set_cons_zero, List.set_cons_succ]
    refine wpAnyH_take (i := 6) (v := ?_) rfl (by kernel_rfl) (by kernel_rfl) (by kernel_rfl) (fun _ _ _ h => h) (Or.inl ⟨by rfl, ?_⟩) hHeld ?_
    rotate_left
    · intro w' hSw; try dsimp only at hSw
      have d0 := ((bt hb0 hSw).cell (p := ⟨gb, ob, none⟩) hlt').trans e0
      have d1 := ((bt hb0 hSw).cell (p := ⟨gb, ob + 1, none⟩) hlt').trans e1
      go_simp; try (with_reducible rfl)
    try simp only [Act.put, List.getElem_toArray, List.getElem_cons_succ, List.getElem_cons_zero, List.setIfInBounds_toArray, List.set_cons_zero, List.set_cons_succ]
    refine wpAnyH_take (i := 7) (v := ?_) rfl (by kernel_rfl) (by kernel_rfl) (by kernel_rfl) (fun _ _ _ h => h) (Or.inl ⟨by rfl, ?_⟩) hHeld ?_
    rotate_left
    · intro w' hSw; try dsimp only at hSw
      go_simp; try (with_reducible rfl)
    try simp only [Act.put, List.getElem_toArray, List.getElem_cons_succ, List.getElem_cons_zero, List.setIfInBounds_toArray, List.set_cons_zero, List.set_cons_succ]
    refine wpAnyH_take (i := 8) (v := ?_) rfl (by kernel_rfl) (by kernel_rfl) (by kernel_rfl) (fun _ _ _ h => h) (Or.inl ⟨by rfl, ?_⟩) hHeld ?_
    rotate_left
    · intro w' hSw; try dsimp only at hSw
      go_simp; try (with_reducible rfl)
    try simp only [Act.put, List.getElem_toArray, List.getElem_cons_succ, List.getElem_cons_zero, List.setIfInBounds_toArray, List.set_cons_zero, List.set_cons_succ]
    refine wpAnyH_take (i := 9) (v := ?_) rfl (by kernel_rfl) (by kernel_rfl) (by kernel_rfl) (fun _ _ _ h => h) (Or.inl ⟨by rfl, ?_⟩) hHeld ?_
    rotate_left
    · intro w' hSw; try dsimp only at hSw
      go_simp; try (with_reducible rfl)
    try simp only [Act.put, List.getElem_toArray, List.getElem_cons_succ, List.getElem_cons_zero, List.setIfInBounds_toArray, List.set_cons_zero, List.set_cons_succ]
    refine wpAnyH_ready (rs := [10, 12]) (by kernel_rfl) (by simp) ?_
    refine AllReadyH.cons rfl (fun K hK => ?_) ?_
    · go_simp
      refine (nG _ (hb.below (bt hb0 hHeld))).mono ?_
      rintro e y1 ⟨rfl, hy1⟩
      have hy2 := hy1.symm
      subst hy2
      clear hy1
      try go_wp2_with fail
      refine hK.out _ _ hHeld (fun hHeld => ?_)
      clear hK K
      try simp only [Act.put, List.getElem_toArray, List.getElem_cons_succ, List.getElem_cons_zero, List.setIfInBounds_toArray, List.set_cons_zero, List.set_cons_succ]
      refine wpAnyH_take (i := 11) (v := ?_) rfl (by kernel_rfl) (by kernel_rfl) (by kernel_rfl) (fun _ _ _ h => h) (Or.inl ⟨by rfl, ?_⟩) hHeld ?_
      rotate_left
      · intro w' hSw; try dsimp only at hSw
        go_simp; try (with_reducible rfl)
      try simp only [Act.put, List.getElem_toArray, List.getElem_cons_succ, List.getElem_cons_zero, List.setIfInBounds_toArray, List.set_cons_zero, List.set_cons_succ]
      refine wpAnyH_ready (rs := [12]) (by kernel_rfl) (by simp) ?_
      refine AllReadyH.cons rfl (fun K hK => ?_) AllReadyH.nil
      go_simp
      refine hK.out _ _ (bt hHeld (below_alloc _ _)) (fun hHeld => ?_)
      clear hK K
      try simp only [Act.put, List.getElem_toArray, List.getElem_cons_succ, List.getElem_cons_zero, List.setIfInBounds_toArray, List.set_cons_zero, List.set_cons_succ]
      refine wpAnyH_ready (rs := [13]) (by kernel_rfl) (by simp) ?_
      refine AllReadyH.cons rfl (fun K hK => ?_) AllReadyH.nil
      rw [if_pos (by rfl)]
      refine wp_store_blk 42 (.tmp 4) _ rfl W.heap.size 0 [.int .i64 K0, .int .i64 K4, .int .i64 K1, .int .i64 0, .slice none 0 0, .slice none 0 0, .slice none 0 0] rfl rfl (Blk.drew (Blk.new' W 42 #[.int .i64 0, .int .i64 0, .int .i64 0, .int .i64 0, .slice none 0 0, .slice none 0 0, .slice none 0 0])) (by show 7 ≤ 7; decide) (mpSize PV.zero MP.zero) (mpOne PV.zero ⟨K0, K4, K1, 0, [], [], []⟩) ?_
      intro w9 h9 ht9
      refine hK.out _ _ (ht9.below hHeld (Nat.le_refl _)) (fun hHeld => ?_)
      clear hK K
      try simp only [Act.put, List.getElem_toArray, List.getElem_cons_succ, List.getElem_cons_zero, List.setIfInBounds_toArray, List.set_cons_zero, List.set_cons_succ]
      refine wpAnyH_done (by kernel_rfl) ?_ _
      refine NoPanic.normal ?_
      go_wp2_with fail
      go_meet
      case rel => exact ⟨rfl, h9, hHeld⟩
    refine AllReadyH.cons rfl (fun K hK => ?_) AllReadyH.nil
    go_simp
    refine hK.out _ _ (bt hHeld (below_alloc _ _)) (fun hHeld => ?_)
    clear hK K
    try simp only [Act.put, List.getElem_toArray, List.getElem_cons_succ, List.getElem_cons_zero, List.setIfInBounds_toArray, List.set_cons_zero, List.set_cons_succ]
    refine wpAnyH_ready (rs := [10]) (by kernel_rfl) (by simp) ?_
    refine AllReadyH.cons rfl (fun K hK => ?_) AllReadyH.nil
    go_simp
    refine (nG _ (hb.below (bt hb0 hHeld))).mono ?_
    rintro e y1 ⟨rfl, hy1⟩
    have hy2 := hy1.symm
    subst hy2
    clear hy1
    try go_wp2_with fail
    refine hK.out _ _ hHeld (fun hHeld => ?_)
    clear hK K
    try simp only [Act.put, List.getElem_toArray, List.getElem_cons_succ, List.getElem_cons_zero, List.setIfInBounds_toArray, List.set_cons_zero, List.set_cons_succ]
    refine wpAnyH_take (i := 11) (v := ?_) rfl (by kernel_rfl) (by kernel_rfl) (by kernel_rfl) (fun _ _ _ h => h) (Or.inl ⟨by rfl, ?_⟩) hHeld ?_
    rotate_left
    · intro w' hSw; try dsimp only at hSw
      go_simp; try (with_reducible rfl)
    try simp only [Act.put, List.getElem_toArray, List.getElem_cons_succ, List.getElem_cons_zero, List.setIfInBounds_toArray, List.set_cons_zero, List.set_cons_succ]
    refine wpAnyH_ready (rs := [13]) (by kernel_rfl) (by simp) ?_
    refine AllReadyH.cons rfl (fun K hK => ?_) AllReadyH.nil
    rw [if_pos (by rfl)]
    refine wp_store_blk 42 (.tmp 4) _ rfl W.heap.size 0 [.int .i64 K0, .int .i64 K4, .int .i64 K1, .int .i64 0, .slice none 0 0, .slice none 0 0, .slice none 0 0] rfl rfl (Blk.drew (Blk.new' W 42 #[.int .i64 0, .int .i64 0, .int .i64 0, .int .i64 0, .slice none 0 0, .slice none 0 0, .slice none 0 0])) (by show 7 ≤ 7; decide) (mpSize PV.zero MP.zero) (mpOne PV.zero ⟨K0, K4, K1, 0, [], [], []⟩) ?_
    intro w9 h9 ht9
    refine hK.out _ _ (ht9.below hHeld (Nat.le_refl _)) (fun hHeld => ?_)
    clear hK K
    try simp only [Act.put, List.getElem_toArray, List.getElem_cons_succ, List.getElem_cons_zero, List.setIfInBounds_toArray, List.set_cons_zero, List.set_cons_succ]
    refine wpAnyH_done (by kernel_rfl) ?_ _
    refine NoPanic.normal ?_
    go_wp2_with fail
    go_meet
    case rel => exact ⟨rfl, h9, hHeld⟩
  case rest =>
    obtain ⟨rfl, hbq, hbw⟩ := hcut
    have hrr2 := hrr.kept hbw
    have hBr : Below w.heap.size w wc := bt hb0 hbw
    have hgq : w.heap.size < W.heap.size := hlW
    clear hrr hbw hb0 hlW hs8 nG hw0 hv0 hw1 hv1 hk00 hk11 e0 e1
    have hrr := hrr2
    clear hrr2
    generalize W.heap.size = gq at *
    obtain ⟨x0, x1, x2, x3, x4, x5, x6⟩ : _ ∧ _ ∧ _ ∧ _ ∧ _ ∧ _ ∧ _ := Blk.cells7 (V := PV.zero) (P := ⟨K0, K4, K1, 0, [], [], []⟩) hbq
    have e2w := (hBr.cell (p := ⟨gb, ob + 2, none⟩) hlt').trans e2
    go_wp2_with (first
      | (go_at_call 70; refine (nS _ (hb.below hBr)).mono ?_; rintro e y1 ⟨rfl, hy1⟩; have hy2 := hy1.symm; subst hy2; clear hy1)
      | (guard_target = wpList _ _ _ (Oper.mk _ (Op.store 2 (Operand.tmp 41) (Operand.tmp 40)) _ _ _ _ :: _) _ _; refine wpList_store_cell rfl 2 (.tmp 41) (.tmp 40) rfl gq 3 (.int .i64 K3) rfl rfl hbq (by show 3 < 7; decide) (by kernel_rfl) rfl ?_; intro w3 hb3 ht3))
    have hbq3 : Blk w3 gq 42 [.int .i64 K0, .int .i64 K4, .int .i64 K1, .int .i64 K3, .slice none 0 0, .slice none 0 0, .slice none 0 0] := hb3
    have hr3 := hrr.turned ht3 (Nat.ne_of_lt hgq)
    have hB3 := ht3.below hBr (Nat.le_of_lt hgq)
    clear hb3 ht3 hrr hBr hbq x0 x1 x2 x3 x4 x5 x6 e2w nS hs16 hw2 hv2 e2
    go_loopw [6] (fun i wr => ∃ (k : Nat) (pb : Option Addr) (cb : Nat) (pw : Option Addr) (cw : Nat), k ≤ m ∧ i = .int .i64 k ∧ Blk wr gq 42 [.int .i64 K0, .int .i64 K4, .int .i64 K1, .int .i64 K3, .slice pb k cb, .slice pw k cw, .slice none 0 0] ∧ wr.ownsRow w.heap.size 4 1 (.slice pb k cb) k (valsB ((List.range k).map (rbad xs))) ∧ wr.ownsRow w.heap.size 2 1 (.slice pw k cw) k (valsI ((List.range k).map (rwear xs))) ∧ Below w.heap.size w wr ∧ Blk wr w.heap.size 42 [.int .i64 0, .int .i64 0, .int .i64 0, .int .i64 0, .slice none 0 0, .slice none 0 0, .slice none 0 0]) (fun i _ => m - (intOf i).toNat)
    case atStart => exact ⟨0, none, 0, none, 0, Nat.zero_le _, rfl, hbq3, ⟨rfl, .inl ⟨rfl, rfl⟩⟩, ⟨rfl, .inl ⟨rfl, rfl⟩⟩, hB3, hr3⟩
    case round =>
      obtain ⟨k, pb, cb, pw, cw, hkm, rfl, hbq, hob, hov, hBr, hrr⟩ := hrel
      clear hbq3 hr3 hB3
      by_cases hlt : k < m
      · have hki : (k : Int) < m := Int.ofNat_lt.2 hlt
        have hA0 : 24 + k / 8 < 256 := by omega
        have hs0 : k % 8 < 8 := by omega
        have hc := HCL.out (24 + k / 8) hA0
        have f1 : IntKind.i64.wrap ((k : Int) / 8) = ((k / 8 : Nat) : Int) := by rw [IntKind.wrap_i64]; omega
        have f2 : IntKind.i64.wrap (24 + ((k / 8 : Nat) : Int)) = ((24 + k / 8 : Nat) : Int) := by rw [IntKind.wrap_i64]; omega
        have f3 : IntKind.u64.wrap ((k : Int).tmod 8) = ((k % 8 : Nat) : Int) := by rw [Int.tmod_eq_emod_of_nonneg (by omega)]; rw [IntKind.wrap_u64]; omega
        have HBE : Hid (rbad xs k = (xs.getD (24 + k / 8) 0).testBit (k % 8)) := rfl
        obtain ⟨bb, HBX⟩ : ∃ bb, Hid (rbad xs k = bb) := ⟨_, rfl⟩
        have hx0 : xs.getD (24 + k / 8) 0 < 256 := by have := hb.range (24 + k / 8); have h2 : ((xs.getD (24 + k / 8) 0 : Nat) : Int) ≤ 255 := this.2; omega
        have hxr : (xs.getD (24 + k / 8) 0 : Int) = el xs (24 + k / 8) := rfl
        rw [← hxr] at hc
        clear hxr
        have hbit := bit_rem (xs.getD (24 + k / 8) 0) (k % 8)
        rw [← HBE.out, HBX.out, ← Int.tmod_eq_emod_of_nonneg (Int.ediv_nonneg (Int.natCast_nonneg _) (Int.pow_nonneg (by decide)))] at hbit
        clear HBE
        generalize xs.getD (24 + k / 8) 0 = x at *
        generalize 24 + k / 8 = A at *
        generalize k / 8 = q at *
        generalize k % 8 = s at *
        have hAi : (A : Int) < 256 := by omega
        have hAn : (0 : Int) ≤ A := by omega
        have hsi : (s : Int) < 8 := by omega
        go_upto_region 10 with (fail)
        go_cut [6] from 47 to 77 (fun s6 wx => ∃ (p5 : Option Addr) (c5 : Nat), s6 = .int .i64 (k : Int) ∧ Blk wx gq 42 [.int .i64 K0, .int .i64 K4, .int .i64 K1, .int .i64 K3, .slice p5 (k + 1) c5, .slice pw k cw, .slice none 0 0] ∧ wx.ownsRow w.heap.size 4 1 (.slice p5 (k + 1) c5) (k + 1) (valsB ((List.range k).map (rbad xs)) ++ [.bool bb]) ∧ wx.ownsRow w.heap.size 2 1 (.slice pw k cw) k (valsI ((List.range k).map (rwear xs))) ∧ Below w.heap.size w wx ∧ Blk wx w.heap.size 42 [.int .i64 0, .int .i64 0, .int .i64 0, .int .i64 0, .slice none 0 0, .slice none 0 0, .slice none 0 0])
        case first =>
          refine wp_region_noPanic ?_
          refine wp_region_held_drew (S := Below w.heap.size w) (by kernel_rfl) hBr.drew (fun hHeld => ?_)
          refine wpAnyH_take (i := 0) (v := ?_) rfl (by kernel_rfl) (by kernel_rfl) (by kernel_rfl) (fun _ _ _ h => h) (Or.inl ⟨by rfl, ?_⟩) hHeld ?_
          rotate_left
          · intro w' hSw; try dsimp only at hSw
            go_simp; try (with_reducible rfl)
          try simp only [Act.put, List.getElem_toArray, List.getElem_cons_succ, List.getElem_cons_zero, List.setIfInBounds_toArray, List.set_cons_zero, List.set_cons_succ]
          refine wpAnyH_take (i := 2) (v := ?_) rfl (by kernel_rfl) (by kernel_rfl) (by kernel_rfl) (fun _ _ _ h => h) (Or.inl ⟨by rfl, ?_⟩) hHeld ?_
          rotate_left
          · intro w' hSw; try dsimp only at hSw
            go_simp; try (with_reducible rfl)
          try simp only [Act.put, List.getElem_toArray, List.getElem_cons_succ, List.getElem_cons_zero, List.setIfInBounds_toArray, List.set_cons_zero, List.set_cons_succ]
          refine wpAnyH_take (i := 3) (v := ?_) rfl (by kernel_rfl) (by kernel_rfl) (by kernel_rfl) (fun _ _ _ h => h) (Or.inl ⟨by rfl, ?_⟩) hHeld ?_
          rotate_left
          · intro w' hSw; try dsimp only at hSw
            go_simp; try (with_reducible rfl)
          try simp only [Act.put, List.getElem_toArray, List.getElem_cons_succ, List.getElem_cons_zero, List.setIfInBounds_toArray, List.set_cons_zero, List.set_cons_succ]
          refine wpAnyH_take (i := 4) (v := ?_) rfl (by kernel_rfl) (by kernel_rfl) (by kernel_rfl) (fun _ _ _ h => h) (Or.inl ⟨by rfl, ?_⟩) hHeld ?_
          rotate_left
          · intro w' hSw; try dsimp only at hSw
            go_simp; try (with_reducible rfl)
          try simp only [Act.put, List.getElem_toArray, List.getElem_cons_succ, List.getElem_cons_zero, List.setIfInBounds_toArray, List.set_cons_zero, List.set_cons_succ]
          refine wpAnyH_take (i := 5) (v := ?_) rfl (by kernel_rfl) (by kernel_rfl) (by kernel_rfl) (fun _ _ _ h => h) (Or.inl ⟨by rfl, ?_⟩) hHeld ?_
          rotate_left
          · intro w' hSw; try dsimp only at hSw
            go_simp; try (with_reducible rfl)
          try simp only [Act.put, List.getElem_toArray, List.getElem_cons_succ, List.getElem_cons_zero, List.setIfInBounds_toArray, List.set_cons_zero, List.set_cons_succ]
          refine wpAnyH_take (i := 6) (v := ?_) rfl (by kernel_rfl) (by kernel_rfl) (by kernel_rfl) (fun _ _ _ h => h) (Or.inl ⟨by rfl, ?_⟩) hHeld ?_
          rotate_left
          · intro w' hSw; try dsimp only at hSw
            go_simp; try (with_reducible rfl)
          try simp only [Act.put, List.getElem_toArray, List.getElem_cons_succ, List.getElem_cons_zero, List.setIfInBounds_toArray, List.set_cons_zero, List.set_cons_succ]
          refine wpAnyH_take (i := 7) (v := ?_) rfl (by kernel_rfl) (by kernel_rfl) (by kernel_rfl) (fun _ _ _ h => h) (Or.inl ⟨by rfl, ?_⟩) hHeld ?_
          rotate_left
          · intro w' hSw; try dsimp only at hSw
            have d0 := (hSw.cell (p := ⟨gb, ob + A, none⟩) hlt').trans hc
            go_simp; try (with_reducible rfl)
          try simp only [Act.put, List.getElem_toArray, List.getElem_cons_succ, List.getElem_cons_zero, List.setIfInBounds_toArray, List.set_cons_zero, List.set_cons_succ]
          refine wpAnyH_take (i := 8) (v := ?_) rfl (by kernel_rfl) (by kernel_rfl) (by kernel_rfl) (fun _ _ _ h => h) (Or.inl ⟨by rfl, ?_⟩) hHeld ?_
          rotate_left
          · intro w' hSw; try dsimp only at hSw
            go_simp; try (with_reducible rfl)
          try simp only [Act.put, List.getElem_toArray, List.getElem_cons_succ, List.getElem_cons_zero, List.setIfInBounds_toArray, List.set_cons_zero, List.set_cons_succ]
          refine wpAnyH_take (i := 9) (v := ?_) rfl (by kernel_rfl) (by kernel_rfl) (by kernel_rfl) (fun _ _ _ h => h) (Or.inl ⟨by rfl, ?_⟩) hHeld ?_
          rotate_left
          · intro w' hSw; try dsimp only at hSw
            go_simp; try (with_reducible rfl)
          try simp only [Act.put, List.getElem_toArray, List.getElem_cons_succ, List.getElem_cons_zero, List.setIfInBounds_toArray, List.set_cons_zero, List.set_cons_succ]
          refine wpAnyH_take (i := 10) (v := ?_) rfl (by kernel_rfl) (by kernel_rfl) (by kernel_rfl) (fun _ _ _ h => h) (Or.inl ⟨by rfl, ?_⟩) hHeld ?_
          rotate_left
          · intro w' hSw; try dsimp only at hSw
            go_simp; try (with_reducible rfl)
          try simp only [Act.put, List.getElem_toArray, List.getElem_cons_succ, List.getElem_cons_zero, List.setIfInBounds_toArray, List.set_cons_zero, List.set_cons_succ]
          refine wpAnyH_take (i := 11) (v := ?_) rfl (by kernel_rfl) (by kernel_rfl) (by kernel_rfl) (fun _ _ _ h => h) (Or.inl ⟨by rfl, ?_⟩) hHeld ?_
          rotate_left
          · intro w' hSw; try dsimp only at hSw
            go_simp; try (with_reducible rfl)
          try simp only [Act.put, List.getElem_toArray, List.getElem_cons_succ, List.getElem_cons_zero, List.setIfInBounds_toArray, List.set_cons_zero, List.set_cons_succ]
          refine wpAnyH_take (i := 12) (v := ?_) rfl (by kernel_rfl) (by kernel_rfl) (by kernel_rfl) (fun _ _ _ h => h) (Or.inl ⟨by rfl, ?_⟩) hHeld ?_
          rotate_left
          · intro w' hSw; try dsimp only at hSw
            go_simp; try (with_reducible rfl)
          try simp only [Act.put, List.getElem_toArray, List.getElem_cons_succ, List.getElem_cons_zero, List.setIfInBounds_toArray, List.set_cons_zero, List.set_cons_succ]
          refine wpAnyH_take (i := 13) (v := ?_) rfl (by kernel_rfl) (by kernel_rfl) (by kernel_rfl) (fun _ _ _ h => h) (Or.inl ⟨by rfl, ?_⟩) hHeld ?_
          rotate_left
          · intro w' hSw; try dsimp only at hSw
            go_simp; try (with_reducible rfl)
          try simp only [Act.put, List.getElem_toArray, List.getElem_cons_succ, List.getElem_cons_zero, List.setIfInBounds_toArray, List.set_cons_zero, List.set_cons_succ]
          refine wpAnyH_ready (rs := [1, 14]) (by kernel_rfl) (by simp) ?_
          refine AllReadyH.cons rfl (fun K hK => ?_) ?_
          · have ya := (Blk.drew hbq).cell' (i := 4) rfl
            have yb := (Blk.drew (hbq.alloc (.cells #[.bool bb] 4))).cell' (i := 4) rfl
            go_simp
            refine hK.out _ _ hHeld (fun hHeld => ?_)
            clear hK K
            try simp only [Act.put, List.getElem_toArray, List.getElem_cons_succ, List.getElem_cons_zero, List.setIfInBounds_toArray, List.set_cons_zero, List.set_cons_succ]
            refine wpAnyH_ready (rs := [14]) (by kernel_rfl) (by simp) ?_
            refine AllReadyH.cons rfl (fun K hK => ?_) AllReadyH.nil
            go_simp
            refine hK.out _ _ (bt hHeld (below_alloc _ _)) (fun hHeld => ?_)
            clear hK K
            try simp only [Act.put, List.getElem_toArray, List.getElem_cons_succ, List.getElem_cons_zero, List.setIfInBounds_toArray, List.set_cons_zero, List.set_cons_succ]
            have hobL := owns_below hob ((below_alloc wr (.cells #[.bool bb] 4)).drew)
            have hovL := owns_below hov ((below_alloc wr (.cells #[.bool bb] 4)).drew)
            have hbqL := hbq.kept ((below_alloc wr (.cells #[.bool bb] 4)).drew)
            have hrrL := hrr.kept ((below_alloc wr (.cells #[.bool bb] 4)).drew)
            have hlitL : Blk (wr.alloc (.cells #[.bool bb] 4)).drew wr.heap.size 4 [.bool bb] := (Blk.new' wr 4 #[.bool bb]).drew
            refine wpAnyH_ready (rs := [15]) (by kernel_rfl) (by simp) ?_
            refine AllReadyH.cons rfl (fun K hK => ?_) AllReadyH.nil
            rw [if_pos (by rfl)]
            refine wp_append_one (.tmp 48) (.tmp 61) 22 4 (.bool false) 1 Try.underlying22 infoBo rfl (by decide) rfl w.heap.size _ k _ rfl hobL wr.heap.size (.bool bb) rfl rfl hlitL (by omega) hHeld.size ?_
            intro p5 c5 w5 ho5 hg5 hb5
            refine hK.out _ _ (hHeld.trans hb5) (fun hHeld => ?_)
            clear hK K
            try simp only [Act.put, List.getElem_toArray, List.getElem_cons_succ, List.getElem_cons_zero, List.setIfInBounds_toArray, List.set_cons_zero, List.set_cons_succ]
            have hbq5 := hbqL.grownE hobL (by decide) hg5
            have hrr5 := hrrL.grownE hobL (by decide) hg5
            have hov5 := owns_grownE hovL hg5 (owns_apartE (by decide) hovL hobL)
            refine wpAnyH_take (i := 16) (v := ?_) rfl (by kernel_rfl) (by kernel_rfl) (by kernel_rfl) (fun _ _ _ h => h) (Or.inl ⟨by rfl, ?_⟩) hHeld ?_
            rotate_left
            · intro w' hSw; try dsimp only at hSw
              go_simp; try (with_reducible rfl)
            try simp only [Act.put, List.getElem_toArray, List.getElem_cons_succ, List.getElem_cons_zero, List.setIfInBounds_toArray, List.set_cons_zero, List.set_cons_succ]
            refine wpAnyH_ready (rs := [17]) (by kernel_rfl) (by simp) ?_
            refine AllReadyH.cons rfl (fun K hK => ?_) AllReadyH.nil
            rw [if_pos (by rfl)]
            refine wp_store_cell 22 (.tmp 63) (.tmp 62) rfl gq 4 (.slice p5 (k + 1) c5) rfl rfl hbq5 (by show 4 < 7; decide) sizeBs rfl ?_
            intro w6 hb6 ht6
            refine hK.out _ _ (ht6.below hHeld (Nat.le_of_lt hgq)) (fun hHeld => ?_)
            clear hK K
            try simp only [Act.put, List.getElem_toArray, List.getElem_cons_succ, List.getElem_cons_zero, List.setIfInBounds_toArray, List.set_cons_zero, List.set_cons_succ]
            refine wpAnyH_done (by kernel_rfl) ?_ _
            refine NoPanic.normal ?_
            go_wp2_with fail
            go_meet
            case rel => exact ⟨p5, c5, rfl, hb6, owns_turned ho5 ht6 (owns_blk_ne (by decide) ho5 hbq5), owns_turned hov5 ht6 (owns_blk_ne (by decide) hov5 hbq5), hHeld, hrr5.turned ht6 (Nat.ne_of_lt hgq)⟩
          refine AllReadyH.cons rfl (fun K hK => ?_) AllReadyH.nil
          go_simp
          refine hK.out _ _ (bt hHeld (below_alloc _ _)) (fun hHeld => ?_)
          clear hK K
          try simp only [Act.put, List.getElem_toArray, List.getElem_cons_succ, List.getElem_cons_zero, List.setIfInBounds_toArray, List.set_cons_zero, List.set_cons_succ]
          refine wpAnyH_ready (rs := [1]) (by kernel_rfl) (by simp) ?_
          refine AllReadyH.cons rfl (fun K hK => ?_) AllReadyH.nil
          have ya := (Blk.drew hbq).cell' (i := 4) rfl
          have yb := (Blk.drew (hbq.alloc (.cells #[.bool bb] 4))).cell' (i := 4) rfl
          go_simp
          refine hK.out _ _ hHeld (fun hHeld => ?_)
          clear hK K
          try simp only [Act.put, List.getElem_toArray, List.getElem_cons_succ, List.getElem_cons_zero, List.setIfInBounds_toArray, List.set_cons_zero, List.set_cons_succ]
          have hobL := owns_below hob ((below_alloc wr (.cells #[.bool bb] 4)).drew)
          have hovL := owns_below hov ((below_alloc wr (.cells #[.bool bb] 4)).drew)
          have hbqL := hbq.kept ((below_alloc wr (.cells #[.bool bb] 4)).drew)
          have hrrL := hrr.kept ((below_alloc wr (.cells #[.bool bb] 4)).drew)
          have hlitL : Blk (wr.alloc (.cells #[.bool bb] 4)).drew wr.heap.size 4 [.bool bb] := (Blk.new' wr 4 #[.bool bb]).drew
          refine wpAnyH_ready (rs := [15]) (by kernel_rfl) (by simp) ?_
          refine AllReadyH.cons rfl (fun K hK => ?_) AllReadyH.nil
          rw [if_pos (by rfl)]
          refine wp_append_one (.tmp 48) (.tmp 61) 22 4 (.bool false) 1 Try.underlying22 infoBo rfl (by decide) rfl w.heap.size _ k _ rfl hobL wr.heap.size (.bool bb) rfl rfl hlitL (by omega) hHeld.size ?_
          intro p5 c5 w5 ho5 hg5 hb5
          refine hK.out _ _ (hHeld.trans hb5) (fun hHeld => ?_)
          clear hK K
          try simp only [Act.put, List.getElem_toArray, List.getElem_cons_succ, List.getElem_cons_zero, List.setIfInBounds_toArray, List.set_cons_zero, List.set_cons_succ]
          have hbq5 := hbqL.grownE hobL (by decide) hg5
          have hrr5 := hrrL.grownE hobL (by decide) hg5
          have hov5 := owns_grownE hovL hg5 (owns_apartE (by decide) hovL hobL)
          refine wpAnyH_take (i := 16) (v := ?_) rfl (by kernel_rfl) (by kernel_rfl) (by kernel_rfl) (fun _ _ _ h => h) (Or.inl ⟨by rfl, ?_⟩) hHeld ?_
          rotate_left
          · intro w' hSw; try dsimp only at hSw
            go_simp; try (with_reducible rfl)
          try simp only [Act.put, List.getElem_toArray, List.getElem_cons_succ, List.getElem_cons_zero, List.setIfInBounds_toArray, List.set_cons_zero, List.set_cons_succ]
          refine wpAnyH_ready (rs := [17]) (by kernel_rfl) (by simp) ?_
          refine AllReadyH.cons rfl (fun K hK => ?_) AllReadyH.nil
          rw [if_pos (by rfl)]
          refine wp_store_cell 22 (.tmp 63) (.tmp 62) rfl gq 4 (.slice p5 (k + 1) c5) rfl rfl hbq5 (by show 4 < 7; decide) sizeBs rfl ?_
          intro w6 hb6 ht6
          refine hK.out _ _ (ht6.below hHeld (Nat.le_of_lt hgq)) (fun hHeld => ?_)
          clear hK K
          try simp only [Act.put, List.getElem_toArray, List.getElem_cons_succ, List.getElem_cons_zero, List.setIfInBounds_toArray, List.set_cons_zero, List.set_cons_succ]
          refine wpAnyH_done (by kernel_rfl) ?_ _
          refine NoPanic.normal ?_
          go_wp2_with fail
          go_meet
          case rel => exact ⟨p5, c5, rfl, hb6, owns_turned ho5 ht6 (owns_blk_ne (by decide) ho5 hbq5), owns_turned hov5 ht6 (owns_blk_ne (by decide) hov5 hbq5), hHeld, hrr5.turned ht6 (Nat.ne_of_lt hgq)⟩
        case rest =>
          obtain ⟨p5, c5, rfl, hbq5, hob5, hov5, hBr5, hrr5⟩ := hcut
          rw [show valsB ((List.range k).map (rbad xs)) ++ [.bool bb] = valsB ((List.range (k + 1)).map (rbad xs)) by rw [rangeB_snoc, HBX.out]; simp [valsB]] at hob5
          clear hbq hob hov hBr hrr hbit f1 f2 f3 hc hAi hAn hsi hx0 hA0 hs0
          have hA0 : 32 + 3 * k + 3 ≤ 256 := by omega
          have f1 : IntKind.i64.wrap (3 * (k : Int)) = ((3 * k : Nat) : Int) := by rw [IntKind.wrap_i64]; omega
          have f2 : IntKind.i64.wrap (32 + ((3 * k : Nat) : Int)) = ((32 + 3 * k : Nat) : Int) := by rw [IntKind.wrap_i64]; omega
          have f3 : IntKind.i64.wrap (35 + ((3 * k : Nat) : Int)) = ((32 + 3 * k + 3 : Nat) : Int) := by rw [IntKind.wrap_i64]; omega
          have g1 : wrap64 (3 * (k : Int)) = ((3 * k : Nat) : Int) := (IntWalk.i64_left _).symm.trans f1
          have g2 : wrap64 (32 + ((3 * k : Nat) : Int)) = ((32 + 3 * k : Nat) : Int) := (IntWalk.i64_left _).symm.trans f2
          have g3 : wrap64 (35 + ((3 * k : Nat) : Int)) = ((32 + 3 * k + 3 : Nat) : Int) := (IntWalk.i64_left _).symm.trans f3
          have hsl := slice_sub gb ob 256 c (32 + 3 * k) 3 (by omega) hA0 hcap
          have nW := fun X (h : In X (some ⟨gb, ob, none⟩) 256 c xs) => number_any (some ⟨gb, ob + (32 + 3 * k), none⟩) 3 (c - (32 + 3 * k)) (subL xs (32 + 3 * k) 3) X (h.sub0 (32 + 3 * k) 3 hA0) (by decide)
          rw [show wI (numTo (subL xs (32 + 3 * k) 3) 3) = rwear xs k from rfl] at nW
          obtain ⟨zz, HZZ⟩ : ∃ zz, Hid (rwear xs k = zz) := ⟨_, rfl⟩
          rw [HZZ.out] at nW
          generalize 32 + 3 * k + 3 = A3 at *
          generalize 32 + 3 * k = A2 at *
          generalize 3 * k = t3 at *
          go_upto_region 11 with (fail)
          refine wp_region_noPanic ?_
          refine wp_region_held_drew (S := Below w.heap.size w) (by kernel_rfl) hBr5.drew (fun hHeld => ?_)
          refine wpAnyH_take (i := 0) (v := ?_) rfl (by kernel_rfl) (by kernel_rfl) (by kernel_rfl) (fun _ _ _ h => h) (Or.inl ⟨by rfl, ?_⟩) hHeld ?_
          rotate_left
          · intro w' hSw; try dsimp only at hSw
            go_simp; try (with_reducible rfl)
          try simp only [Act.put, List.getElem_toArray, List.getElem_cons_succ, List.getElem_cons_zero, List.setIfInBounds_toArray, List.set_cons_zero, List.set_cons_succ]
          refine wpAnyH_take (i := 2) (v := ?_) rfl (by kernel_rfl) (by kernel_rfl) (by kernel_rfl) (fun _ _ _ h => h) (Or.inl ⟨by rfl, ?_⟩) hHeld ?_
          rotate_left
          · intro w' hSw; try dsimp only at hSw
            go_simp; try (with_reducible rfl)
          try simp only [Act.put, List.getElem_toArray, List.getElem_cons_succ, List.getElem_cons_zero, List.setIfInBounds_toArray, List.set_cons_zero, List.set_cons_succ]
          refine wpAnyH_take (i := 3) (v := ?_) rfl (by kernel_rfl) (by kernel_rfl) (by kernel_rfl) (fun _ _ _ h => h) (Or.inl ⟨by rfl, ?_⟩) hHeld ?_
          rotate_left
          · intro w' hSw; try dsimp only at hSw
            go_simp; try (with_reducible rfl)
          try simp only [Act.put, List.getElem_toArray, List.getElem_cons_succ, List.getElem_cons_zero, List.setIfInBounds_toArray, List.set_cons_zero, List.set_cons_succ]
          refine wpAnyH_take (i := 4) (v := ?_) rfl (by kernel_rfl) (by kernel_rfl) (by kernel_rfl) (fun _ _ _ h => h) (Or.inl ⟨by rfl, ?_⟩) hHeld ?_
          rotate_left
          · intro w' hSw; try dsimp only at hSw
            go_simp; try (with_reducible rfl)
          try simp only [Act.put, List.getElem_toArray, List.getElem_cons_succ, List.getElem_cons_zero, List.setIfInBounds_toArray, List.set_cons_zero, List.set_cons_succ]
          refine wpAnyH_take (i := 5) (v := ?_) rfl (by kernel_rfl) (by kernel_rfl) (by kernel_rfl) (fun _ _ _ h => h) (Or.inl ⟨by rfl, ?_⟩) hHeld ?_
          rotate_left
          · intro w' hSw; try dsimp only at hSw
            go_simp; try (with_reducible rfl)
          try simp only [Act.put, List.getElem_toArray, List.getElem_cons_succ, List.getElem_cons_zero, List.setIfInBounds_toArray, List.set_cons_zero, List.set_cons_succ]
          refine wpAnyH_take (i := 6) (v := ?_) rfl (by kernel_rfl) (by kernel_rfl) (by kernel_rfl) (fun _ _ _ h => h) (Or.inl ⟨by rfl, ?_⟩) hHeld ?_
          rotate_left
          · intro w' hSw; try dsimp only at hSw
            go_simp; try (with_reducible rfl)
          try simp only [Act.put, List.getElem_toArray, List.getElem_cons_succ, List.getElem_cons_zero, List.setIfInBounds_toArray, List.set_cons_zero, List.set_cons_succ]
          refine wpAnyH_take (i := 7) (v := ?_) rfl (by kernel_rfl) (by kernel_rfl) (by kernel_rfl) (fun _ _ _ h => h) (Or.inl ⟨by rfl, ?_⟩) hHeld ?_
          rotate_left
          · intro w' hSw; try dsimp only at hSw
            go_simp; try (with_reducible rfl)
          try simp only [Act.put, List.getElem_toArray, List.getElem_cons_succ, List.getElem_cons_zero, List.setIfInBounds_toArray, List.set_cons_zero, List.set_cons_succ]
          refine wpAnyH_take (i := 8) (v := ?_) rfl (by kernel_rfl) (by kernel_rfl) (by kernel_rfl) (fun _ _ _ h => h) (Or.inl ⟨by rfl, ?_⟩) hHeld ?_
          rotate_left
          · intro w' hSw; try dsimp only at hSw
            go_simp; try (with_reducible rfl)
          try simp only [Act.put, List.getElem_toArray, List.getElem_cons_succ, List.getElem_cons_zero, List.setIfInBounds_toArray, List.set_cons_zero, List.set_cons_succ]
          refine wpAnyH_take (i := 9) (v := ?_) rfl (by kernel_rfl) (by kernel_rfl) (by kernel_rfl) (fun _ _ _ h => h) (Or.inl ⟨by rfl, ?_⟩) hHeld ?_
          rotate_left
          · intro w' hSw; try dsimp only at hSw
            go_simp; try (with_reducible rfl)
          try simp only [Act.put, List.getElem_toArray, List.getElem_cons_succ, List.getElem_cons_zero, List.setIfInBounds_toArray, List.set_cons_zero, List.set_cons_succ]
          refine wpAnyH_ready (rs := [1, 10]) (by kernel_rfl) (by simp) ?_
          refine AllReadyH.cons rfl (fun K hK => ?_) ?_
          · have ya := (Blk.drew hbq5).cell' (i := 5) rfl
            have yb := (Blk.drew (hbq5.alloc (.cells #[.int .i64 zz] 2))).cell' (i := 5) rfl
            go_simp
            refine hK.out _ _ hHeld (fun hHeld => ?_)
            clear hK K
            try simp only [Act.put, List.getElem_toArray, List.getElem_cons_succ, List.getElem_cons_zero, List.setIfInBounds_toArray, List.set_cons_zero, List.set_cons_succ]
            refine wpAnyH_ready (rs := [10]) (by kernel_rfl) (by simp) ?_
            refine AllReadyH.cons rfl (fun K hK => ?_) AllReadyH.nil
            go_simp
            refine (nW _ (hb.below hHeld)).mono ?_
            rintro e y1 ⟨rfl, hy1⟩
            have hy2 := hy1.symm
            subst hy2
            clear hy1
            try go_wp2_with fail
            refine hK.out _ _ hHeld (fun hHeld => ?_)
            clear hK K
            try simp only [Act.put, List.getElem_toArray, List.getElem_cons_succ, List.getElem_cons_zero, List.setIfInBounds_toArray, List.set_cons_zero, List.set_cons_succ]
            refine wpAnyH_ready (rs := [11]) (by kernel_rfl) (by simp) ?_
            refine AllReadyH.cons rfl (fun K hK => ?_) AllReadyH.nil
            go_simp
            refine hK.out _ _ (bt hHeld (below_alloc _ _)) (fun hHeld => ?_)
            clear hK K
            try simp only [Act.put, List.getElem_toArray, List.getElem_cons_succ, List.getElem_cons_zero, List.setIfInBounds_toArray, List.set_cons_zero, List.set_cons_succ]
            have hobL := owns_below hob5 ((below_alloc wc (.cells #[.int .i64 zz] 2)).drew)
            have hovL := owns_below hov5 ((below_alloc wc (.cells #[.int .i64 zz] 2)).drew)
            have hbqL := hbq5.kept ((below_alloc wc (.cells #[.int .i64 zz] 2)).drew)
            have hrrL := hrr5.kept ((below_alloc wc (.cells #[.int .i64 zz] 2)).drew)
            have hlitL : Blk (wc.alloc (.cells #[.int .i64 zz] 2)).drew wc.heap.size 2 [.int .i64 zz] := (Blk.new' wc 2 #[.int .i64 zz]).drew
            refine wpAnyH_ready (rs := [12]) (by kernel_rfl) (by simp) ?_
            refine AllReadyH.cons rfl (fun K hK => ?_) AllReadyH.nil
            rw [if_pos (by rfl)]
            refine wp_append_one (.tmp 65) (.tmp 75) 23 2 (.int .i64 0) 8 Try.underlying23 (by kernel_rfl) rfl (by decide) rfl w.heap.size _ k _ rfl hovL wc.heap.size (.int .i64 zz) rfl rfl hlitL (by omega) hHeld.size ?_
            intro p7 c7 w7 ho7 hg7 hb7
            refine hK.out _ _ (hHeld.trans hb7) (fun hHeld => ?_)
            clear hK K
            try simp only [Act.put, List.getElem_toArray, List.getElem_cons_succ, List.getElem_cons_zero, List.setIfInBounds_toArray, List.set_cons_zero, List.set_cons_succ]
            have hbq7 := hbqL.grownE hovL (by decide) hg7
            have hrr7 := hrrL.grownE hovL (by decide) hg7
            have hob7 := owns_grownE hobL hg7 (owns_apartE (by decide) hobL hovL)
            refine wpAnyH_take (i := 13) (v := ?_) rfl (by kernel_rfl) (by kernel_rfl) (by kernel_rfl) (fun _ _ _ h => h) (Or.inl ⟨by rfl, ?_⟩) hHeld ?_
            rotate_left
            · intro w' hSw; try dsimp only at hSw
              go_simp; try (with_reducible rfl)
            try simp only [Act.put, List.getElem_toArray, List.getElem_cons_succ, List.getElem_cons_zero, List.setIfInBounds_toArray, List.set_cons_zero, List.set_cons_succ]
            refine wpAnyH_ready (rs := [14]) (by kernel_rfl) (by simp) ?_
            refine AllReadyH.cons rfl (fun K hK => ?_) AllReadyH.nil
            rw [if_pos (by rfl)]
            refine wp_store_cell 23 (.tmp 77) (.tmp 76) rfl gq 5 (.slice p7 (k + 1) c7) rfl rfl hbq7 (by show 5 < 7; decide) sizeLs rfl ?_
            intro w8 hb8 ht8
            refine hK.out _ _ (ht8.below hHeld (Nat.le_of_lt hgq)) (fun hHeld => ?_)
            clear hK K
            try simp only [Act.put, List.getElem_toArray, List.getElem_cons_succ, List.getElem_cons_zero, List.setIfInBounds_toArray, List.set_cons_zero, List.set_cons_succ]
            refine wpAnyH_done (by kernel_rfl) ?_ _
            refine NoPanic.normal ?_
            go_wp2_with fail
            go_roundw
            case rel =>
              refine ⟨k + 1, p5, c5, p7, c7, by omega, by go_num, hb8, owns_turned hob7 ht8 (owns_blk_ne (by decide) hob7 hbq7), ?_, hHeld, hrr7.turned ht8 (Nat.ne_of_lt hgq)⟩
              have e9 := owns_turned ho7 ht8 (owns_blk_ne (by decide) ho7 hbq7)
              rw [rangeW_snoc, HZZ.out]
              simpa [valsI] using e9
            case measure => simp [intOf]; omega
          refine AllReadyH.cons rfl (fun K hK => ?_) AllReadyH.nil
          go_simp
          refine (nW _ (hb.below hHeld)).mono ?_
          rintro e y1 ⟨rfl, hy1⟩
          have hy2 := hy1.symm
          subst hy2
          clear hy1
          try go_wp2_with fail
          refine hK.out _ _ hHeld (fun hHeld => ?_)
          clear hK K
          try simp only [Act.put, List.getElem_toArray, List.getElem_cons_succ, List.getElem_cons_zero, List.setIfInBounds_toArray, List.set_cons_zero, List.set_cons_succ]
          refine wpAnyH_ready (rs := [1, 11]) (by kernel_rfl) (by simp) ?_
          refine AllReadyH.cons rfl (fun K hK => ?_) ?_
          · have ya := (Blk.drew hbq5).cell' (i := 5) rfl
            have yb := (Blk.drew (hbq5.alloc (.cells #[.int .i64 zz] 2))).cell' (i := 5) rfl
            go_simp
            refine hK.out _ _ hHeld (fun hHeld => ?_)
            clear hK K
            try simp only [Act.put, List.getElem_toArray, List.getElem_cons_succ, List.getElem_cons_zero, List.setIfInBounds_toArray, List.set_cons_zero, List.set_cons_succ]
            refine wpAnyH_ready (rs := [11]) (by kernel_rfl) (by simp) ?_
            refine AllReadyH.cons rfl (fun K hK => ?_) AllReadyH.nil
            go_simp
            refine hK.out _ _ (bt hHeld (below_alloc _ _)) (fun hHeld => ?_)
            clear hK K
            try simp only [Act.put, List.getElem_toArray, List.getElem_cons_succ, List.getElem_cons_zero, List.setIfInBounds_toArray, List.set_cons_zero, List.set_cons_succ]
            have hobL := owns_below hob5 ((below_alloc wc (.cells #[.int .i64 zz] 2)).drew)
            have hovL := owns_below hov5 ((below_alloc wc (.cells #[.int .i64 zz] 2)).drew)
            have hbqL := hbq5.kept ((below_alloc wc (.cells #[.int .i64 zz] 2)).drew)
            have hrrL := hrr5.kept ((below_alloc wc (.cells #[.int .i64 zz] 2)).drew)
            have hlitL : Blk (wc.alloc (.cells #[.int .i64 zz] 2)).drew wc.heap.size 2 [.int .i64 zz] := (Blk.new' wc 2 #[.int .i64 zz]).drew
            refine wpAnyH_ready (rs := [12]) (by kernel_rfl) (by simp) ?_
            refine AllReadyH.cons rfl (fun K hK => ?_) AllReadyH.nil
            rw [if_pos (by rfl)]
            refine wp_append_one (.tmp 65) (.tmp 75) 23 2 (.int .i64 0) 8 Try.underlying23 (by kernel_rfl) rfl (by decide) rfl w.heap.size _ k _ rfl hovL wc.heap.size (.int .i64 zz) rfl rfl hlitL (by omega) hHeld.size ?_
            intro p7 c7 w7 ho7 hg7 hb7
            refine hK.out _ _ (hHeld.trans hb7) (fun hHeld => ?_)
            clear hK K
            try simp only [Act.put, List.getElem_toArray, List.getElem_cons_succ, List.getElem_cons_zero, List.setIfInBounds_toArray, List.set_cons_zero, List.set_cons_succ]
            have hbq7 := hbqL.grownE hovL (by decide) hg7
            have hrr7 := hrrL.grownE hovL (by decide) hg7
            have hob7 := owns_grownE hobL hg7 (owns_apartE (by decide) hobL hovL)
            refine wpAnyH_take (i := 13) (v := ?_) rfl (by kernel_rfl) (by kernel_rfl) (by kernel_rfl) (fun _ _ _ h => h) (Or.inl ⟨by rfl, ?_⟩) hHeld ?_
            rotate_left
            · intro w' hSw; try dsimp only at hSw
              go_simp; try (with_reducible rfl)
            try simp only [Act.put, List.getElem_toArray, List.getElem_cons_succ, List.getElem_cons_zero, List.setIfInBounds_toArray, List.set_cons_zero, List.set_cons_succ]
            refine wpAnyH_ready (rs := [14]) (by kernel_rfl) (by simp) ?_
            refine AllReadyH.cons rfl (fun K hK => ?_) AllReadyH.nil
            rw [if_pos (by rfl)]
            refine wp_store_cell 23 (.tmp 77) (.tmp 76) rfl gq 5 (.slice p7 (k + 1) c7) rfl rfl hbq7 (by show 5 < 7; decide) sizeLs rfl ?_
            intro w8 hb8 ht8
            refine hK.out _ _ (ht8.below hHeld (Nat.le_of_lt hgq)) (fun hHeld => ?_)
            clear hK K
            try simp only [Act.put, List.getElem_toArray, List.getElem_cons_succ, List.getElem_cons_zero, List.setIfInBounds_toArray, List.set_cons_zero, List.set_cons_succ]
            refine wpAnyH_done (by kernel_rfl) ?_ _
            refine NoPanic.normal ?_
            go_wp2_with fail
            go_roundw
            case rel =>
              refine ⟨k + 1, p5, c5, p7, c7, by omega, by go_num, hb8, owns_turned hob7 ht8 (owns_blk_ne (by decide) hob7 hbq7), ?_, hHeld, hrr7.turned ht8 (Nat.ne_of_lt hgq)⟩
              have e9 := owns_turned ho7 ht8 (owns_blk_ne (by decide) ho7 hbq7)
              rw [rangeW_snoc, HZZ.out]
              simpa [valsI] using e9
            case measure => simp [intOf]; omega
          refine AllReadyH.cons rfl (fun K hK => ?_) AllReadyH.nil
          go_simp
          refine hK.out _ _ (bt hHeld (below_alloc _ _)) (fun hHeld => ?_)
          clear hK K
          try simp only [Act.put, List.getElem_toArray, List.getElem_cons_succ, List.getElem_cons_zero, List.setIfInBounds_toArray, List.set_cons_zero, List.set_cons_succ]
          refine wpAnyH_ready (rs := [1]) (by kernel_rfl) (by simp) ?_
          refine AllReadyH.cons rfl (fun K hK => ?_) AllReadyH.nil
          have ya := (Blk.drew hbq5).cell' (i := 5) rfl
          have yb := (Blk.drew (hbq5.alloc (.cells #[.int .i64 zz] 2))).cell' (i := 5) rfl
          go_simp
          refine hK.out _ _ hHeld (fun hHeld => ?_)
          clear hK K
          try simp only [Act.put, List.getElem_toArray, List.getElem_cons_succ, List.getElem_cons_zero, List.setIfInBounds_toArray, List.set_cons_zero, List.set_cons_succ]
          have hobL := owns_below hob5 ((below_alloc wc (.cells #[.int .i64 zz] 2)).drew)
          have hovL := owns_below hov5 ((below_alloc wc (.cells #[.int .i64 zz] 2)).drew)
          have hbqL := hbq5.kept ((below_alloc wc (.cells #[.int .i64 zz] 2)).drew)
          have hrrL := hrr5.kept ((below_alloc wc (.cells #[.int .i64 zz] 2)).drew)
          have hlitL : Blk (wc.alloc (.cells #[.int .i64 zz] 2)).drew wc.heap.size 2 [.int .i64 zz] := (Blk.new' wc 2 #[.int .i64 zz]).drew
          refine wpAnyH_ready (rs := [12]) (by kernel_rfl) (by simp) ?_
          refine AllReadyH.cons rfl (fun K hK => ?_) AllReadyH.nil
          rw [if_pos (by rfl)]
          refine wp_append_one (.tmp 65) (.tmp 75) 23 2 (.int .i64 0) 8 Try.underlying23 (by kernel_rfl) rfl (by decide) rfl w.heap.size _ k _ rfl hovL wc.heap.size (.int .i64 zz) rfl rfl hlitL (by omega) hHeld.size ?_
          intro p7 c7 w7 ho7 hg7 hb7
          refine hK.out _ _ (hHeld.trans hb7) (fun hHeld => ?_)
          clear hK K
          try simp only [Act.put, List.getElem_toArray, List.getElem_cons_succ, List.getElem_cons_zero, List.setIfInBounds_toArray, List.set_cons_zero, List.set_cons_succ]
          have hbq7 := hbqL.grownE hovL (by decide) hg7
          have hrr7 := hrrL.grownE hovL (by decide) hg7
          have hob7 := owns_grownE hobL hg7 (owns_apartE (by decide) hobL hovL)
          refine wpAnyH_take (i := 13) (v := ?_) rfl (by kernel_rfl) (by kernel_rfl) (by kernel_rfl) (fun _ _ _ h => h) (Or.inl ⟨by rfl, ?_⟩) hHeld ?_
          rotate_left
          · intro w' hSw; try dsimp only at hSw
            go_simp; try (with_reducible rfl)
          try simp only [Act.put, List.getElem_toArray, List.getElem_cons_succ, List.getElem_cons_zero, List.setIfInBounds_toArray, List.set_cons_zero, List.set_cons_succ]
          refine wpAnyH_ready (rs := [14]) (by kernel_rfl) (by simp) ?_
          refine AllReadyH.cons rfl (fun K hK => ?_) AllReadyH.nil
          rw [if_pos (by rfl)]
          refine wp_store_cell 23 (.tmp 77) (.tmp 76) rfl gq 5 (.slice p7 (k + 1) c7) rfl rfl hbq7 (by show 5 < 7; decide) sizeLs rfl ?_
          intro w8 hb8 ht8
          refine hK.out _ _ (ht8.below hHeld (Nat.le_of_lt hgq)) (fun hHeld => ?_)
          clear hK K
          try simp only [Act.put, List.getElem_toArray, List.getElem_cons_succ, List.getElem_cons_zero, List.setIfInBounds_toArray, List.set_cons_zero, List.set_cons_succ]
          refine wpAnyH_done (by kernel_rfl) ?_ _
          refine NoPanic.normal ?_
          go_wp2_with fail
          go_roundw
          case rel =>
            refine ⟨k + 1, p5, c5, p7, c7, by omega, by go_num, hb8, owns_turned hob7 ht8 (owns_blk_ne (by decide) hob7 hbq7), ?_, hHeld, hrr7.turned ht8 (Nat.ne_of_lt hgq)⟩
            have e9 := owns_turned ho7 ht8 (owns_blk_ne (by decide) ho7 hbq7)
            rw [rangeW_snoc, HZZ.out]
            simpa [valsI] using e9
          case measure => simp [intOf]; omega
      · obtain rfl : k = m := by omega
        obtain ⟨Vq, HVQ⟩ : ∃ Vq, Hid (Vq = (⟨pb, k, cb, pw, k, cw, none, 0, 0⟩ : PV)) := ⟨_, rfl⟩
        have hbq2 : Blk wr gq 42 (Vq.cells Q) := by rw [HVQ.out, HRD.out]; exact hbq
        have hoq : OwnP w.heap.size wr Vq Q := by rw [HVQ.out, HRD.out]; exact ⟨hob, hov, ⟨rfl, .inl ⟨rfl, rfl⟩⟩, by show k ≤ _; omega, by show k ≤ _; omega, Nat.zero_le _⟩
        clear HRD HVQ hob hov HCL HMM
        have x0 := hbq.cell' (i := 0) rfl
        go_upto_region 18 with (fail)
        clear x0 hbq
        have hbq := hbq2
        clear hbq2
        cases hok : okMP Q with
        | false =>
          have hr := HR.out.trans (if_neg (fun h => by rw [hok] at h; cases h.1))
          have HOK : Hid (okMP Q = false) := hok
          clear HR hok
          subst hr
          obtain ⟨x0, x1, x2, x3, x4, x5, x6⟩ := hbq.cells7
          have HY := fun V X (h : InP X V Q) => rbytes_any V Q X h
          rw [bytesR_no HOK.out] at HY
          go_wp2_with (first
            | (go_at_call 35; refine (HY Vq _ hoq.inP).mono ?_; rintro e w2 ⟨p2, n2, c2, rfl, hin2, hb2⟩; dsimp only; have r2 := hrr.kept hb2)
            | (guard_target = wpList _ _ _ (Oper.mk _ (Op.store 42 (Operand.tmp 2) (Operand.tmp 126)) _ _ _ _ :: _) _ _; refine wpList_store_blk rfl 42 (.tmp 2) (.tmp 126) rfl _ _ (PV.cells PV.zero MP.zero) rfl rfl r2 (by show 7 ≤ 7; decide) (mpSize PV.zero MP.zero) (mpOne PV.zero MP.zero) ?_; intro w9 h9 ht9))
          have h9' : Blk w9 w.heap.size 42 (PV.zero.cells MP.zero) := h9
          refine ret_mpE Try.results37 rfl h9' rfl rfl ?_
          exact ⟨PV.zero, rfl, ownP_zero _ _, ht9.below (bt hBr hb2) (Nat.le_refl _)⟩
        | true =>
          by_cases heq : writeL Q = xs
          · have hr := HR.out.trans (if_pos ⟨hok, heq⟩)
            have HOK : Hid (okMP Q = true) := hok
            have HEQ : Hid ((writeL Q == xs) = true) := by show _ = _; rw [heq]; exact beq_self_eq_true _
            clear HR hok heq
            subst hr
            obtain ⟨x0, x1, x2, x3, x4, x5, x6⟩ := hbq.cells7
            have HY := fun V X (h : InP X V Q) => rbytes_any V Q X h
            rw [bytesR_ok HOK.out] at HY
            have HYB : Hid (∀ x ∈ writeL Q, x < 256) := writeL_byte Q
            generalize writeL Q = Yq at *
            have hse : ((strOfNums (Yq.map fun x : Nat => (x : Int))).toList == (strOfNums (xs.map fun x : Nat => (x : Int))).toList) = true := by rw [str_eq HYB.out hb.byte]; exact HEQ.out
            have cv1 := fun X p n c (h : In X p n c Yq) => conv_in h
            have cv2 := fun X (h : In X (some ⟨gb, ob, none⟩) 256 c xs) => conv_in h
            generalize strOfNums (Yq.map fun x : Nat => (x : Int)) = s1 at *
            generalize strOfNums (xs.map fun x : Nat => (x : Int)) = s2 at *
            have hsn : (s1.toList != s2.toList) = false := by simp only [bne, hse]; rfl
            go_wp2_with (first
              | (go_at_call 35; refine (HY Vq _ hoq.inP).mono ?_; rintro e w2 ⟨p2, n2, c2, rfl, hin2, hb2⟩; dsimp only at hin2 ⊢; have r2 := hrr.kept hb2; have hB2 := bt hBr hb2; have e1 := cv1 _ _ _ _ hin2; have e2 := cv2 _ (hb.below hB2); have hoq2 := hoq.next hb2; have hbq2 := hbq.kept hb2; obtain ⟨x0, x1, x2, x3, x4, x5, x6⟩ := hbq2.cells7)
              | (guard_target = wpList _ _ _ (Oper.mk _ (Op.store 42 (Operand.tmp 2) (Operand.tmp 127)) _ _ _ _ :: _) _ _; refine wpList_store_blk rfl 42 (.tmp 2) (.tmp 127) rfl _ _ (PV.cells Vq Q) rfl rfl r2 (by show 7 ≤ 7; decide) (mpSize Vq Q) (mpOne Vq Q) ?_; intro w9 h9 ht9))
            have h9' : Blk w9 w.heap.size 42 (Vq.cells Q) := h9
            refine ret_mpE Try.results37 rfl h9' rfl rfl ?_
            exact ⟨Vq, rfl, hoq2.turned ht9 r2 (by decide) (by decide) (by decide), ht9.below hB2 (Nat.le_refl _)⟩
          · have hr := HR.out.trans (if_neg (fun h => heq h.2))
            have HOK : Hid (okMP Q = true) := hok
            have HEQ : Hid ((writeL Q == xs) = false) := by show _ = _; exact beq_eq_false_iff_ne.2 heq
            clear HR hok heq
            subst hr
            obtain ⟨x0, x1, x2, x3, x4, x5, x6⟩ := hbq.cells7
            have HY := fun V X (h : InP X V Q) => rbytes_any V Q X h
            rw [bytesR_ok HOK.out] at HY
            have HYB : Hid (∀ x ∈ writeL Q, x < 256) := writeL_byte Q
            generalize writeL Q = Yq at *
            have hse : ((strOfNums (Yq.map fun x : Nat => (x : Int))).toList == (strOfNums (xs.map fun x : Nat => (x : Int))).toList) = false := by rw [str_eq HYB.out hb.byte]; exact HEQ.out
            have cv1 := fun X p n c (h : In X p n c Yq) => conv_in h
            have cv2 := fun X (h : In X (some ⟨gb, ob, none⟩) 256 c xs) => conv_in h
            generalize strOfNums (Yq.map fun x : Nat => (x : Int)) = s1 at *
            generalize strOfNums (xs.map fun x : Nat => (x : Int)) = s2 at *
            have hsn : (s1.toList != s2.toList) = true := by simp only [bne, hse]; rfl
            go_wp2_with (first
              | (go_at_call 35; refine (HY Vq _ hoq.inP).mono ?_; rintro e w2 ⟨p2, n2, c2, rfl, hin2, hb2⟩; dsimp only at hin2 ⊢; have r2 := hrr.kept hb2; have hB2 := bt hBr hb2; have e1 := cv1 _ _ _ _ hin2; have e2 := cv2 _ (hb.below hB2); have hoq2 := hoq.next hb2; have hbq2 := hbq.kept hb2; obtain ⟨x0, x1, x2, x3, x4, x5, x6⟩ := hbq2.cells7)
              | (guard_target = wpList _ _ _ (Oper.mk _ (Op.store 42 (Operand.tmp 2) (Operand.tmp 126)) _ _ _ _ :: _) _ _; refine wpList_store_blk rfl 42 (.tmp 2) (.tmp 126) rfl _ _ (PV.cells PV.zero MP.zero) rfl rfl r2 (by show 7 ≤ 7; decide) (mpSize PV.zero MP.zero) (mpOne PV.zero MP.zero) ?_; intro w9 h9 ht9))
            have h9' : Blk w9 w.heap.size 42 (PV.zero.cells MP.zero) := h9
            refine ret_mpE Try.results37 rfl h9' rfl rfl ?_
            exact ⟨PV.zero, rfl, ownP_zero _ _, ht9.below hB2 (Nat.le_refl _)⟩
end Go.Proofs.Ytpikaagdiafieaa
