/-
  What write makes of a page that may be.
-/
import Derived.Test.YtpikaagdiafieaaMjB4
namespace Go.Proofs.Ytpikaagdiafieaa
open Go.RowKit
theorem wrap_u64 {x : Int} (h0 : 0 ≤ x) (h1 : x ≤ 1152921504606846976) : IntKind.u64.wrap x = ((x.toNat : Nat) : Int) := by rw [IntKind.wrap_u64]; omega
theorem wrap_u64n {x : Nat} (h1 : x ≤ 1000000) : IntKind.u64.wrap (x : Int) = (x : Int) := by rw [IntKind.wrap_u64]; omega
theorem kept_part {P : MP} (h : okMP P = true) (hk : P.kind = 1) : okMP P = true ∧ headV P = [P.kind.toNat, P.part.toNat, P.bad.length, 0, P.gen.toNat] := by
  have hr := (okMP_part h hk).2.2.2.2.2
  exact ⟨h, by unfold headV; rw [hr]; rfl⟩
theorem kept_recs {P : MP} (h : okMP P = true) (hk : ¬ P.kind = 1) : headV P = [P.kind.toNat, P.part.toNat, P.recs.length, 0, P.gen.toNat] := by
  have hr := (okMP_recs h hk).2.2.2.1
  unfold headV; rw [hr, Nat.zero_add]
/-- The bytes of a page in new memory. -/
def ResY (w : World) (xs : List Nat) (e : Ending) (w' : World) : Prop := ∃ g, e = .returned (.slice (some ⟨g, 0, none⟩) 256 256) ∧ Blk w' g 5 (vals xs) ∧ w.heap.size ≤ g ∧ Below w.heap.size w w'
set_option linter.unusedSimpArgs false in
set_option maxRecDepth 100000 in
set_option maxHeartbeats 4000000 in
theorem write_part (V : PV) (P : MP) (w : World) (hP : InP w V P) (hok : okMP P = true) (hk : P.kind = 1) :
    Calls Try.prog 66 #[V.val P] w (ResY w (writeL P)) := by
  obtain ⟨i0, hi, hz0, hz1, hz2⟩ := info_parts info5
  obtain ⟨pb, nb, cb, pw, nw, cw, pr, nr, cr⟩ := V
  have hlb : P.bad.length = nb := hP.b.len
  have hlw : P.wear.length = nw := hP.v.len
  have hlr : P.recs.length = nr := hP.r.len
  have E : Hid (writeL P = partB P (headB P)) := by show _ = _; unfold writeL; rw [if_pos hk]
  obtain ⟨hp, hs, hn, hm, hww, hr⟩ := okMP_part hok hk
  have hhv := (kept_part hok hk).2
  rw [hlb] at hn hm hhv
  rw [hlr] at hr
  rw [hlw] at hm
  subst hr
  subst hm
  have bk1 : (P.kind == 1) = true := by simpa using hk
  have HW : Hid (∀ j, j < nw → 0 ≤ eI P.wear j ∧ eI P.wear j ≤ 16777215) := fun j hj => okWear_iff.1 (eI_all.1 hww j (by omega))
  have hws := wrap_u64 hs.1 hs.2
  have HS : Hid (packOk [64] [P.seq.toNat] = true) := seqOk hs.2
  have hsl64 : P.seq.toNat < 18446744073709551616 := by have := hs.2; omega
  have hkk : 0 ≤ P.kind ∧ P.kind ≤ 1152921504606846976 := by omega
  have HH : Hid (packOk headW [P.kind.toNat, P.part.toNat, nw, 0, P.gen.toNat] = true) := by show _ = _; rw [← hhv]; exact headOk hok
  have HB : Hid (headB P = splice (List.replicate 256 0) 0 (packL headW [P.kind.toNat, P.part.toNat, nw, 0, P.gen.toNat])) := by show _ = _; unfold headB; rw [hhv]
  have HBL : Hid ((headB P).length = 256) := headB_length hok
  have hg0 := (okMP_iff.1 hok).1
  have hwk := wrap_u64 hkk.1 hkk.2
  have hwp : IntKind.u64.wrap P.part = ((P.part.toNat : Nat) : Int) := wrap_u64 hp.1 (by omega)
  have hwg := wrap_u64 hg0.1 hg0.2
  have hwm : IntKind.u64.wrap (nw : Int) = (nw : Int) := wrap_u64n (by omega)
  have HL : Hid (∀ x ∈ [P.kind.toNat, P.part.toNat, nw, 0, P.gen.toNat], x < 18446744073709551616) := by
    intro x hx
    have h1 := hkk.2; have h2 := hp.2; have h3 := hg0.2
    simp only [List.mem_cons, List.not_mem_nil, or_false] at hx
    omega
  have hbp0 : Blk _ _ _ (PV.cells ⟨pb, nw, cb, pw, nw, cw, pr, 0, cr⟩ P) := Blk.new' w 42 #[.int .i64 P.kind, .int .i64 P.gen, .int .i64 P.part, .int .i64 P.seq, .slice pb nw cb, .slice pw nw cw, .slice pr 0 cr]
  have hal := below_alloc w (.cells #[.int .i64 P.kind, .int .i64 P.gen, .int .i64 P.part, .int .i64 P.seq, .slice pb nw cb, .slice pw nw cw, .slice pr 0 cr] 42)
  clear hhv hok hkk hg0 hk hww
  generalize P.kind.toNat = K0 at *
  generalize P.part.toNat = K2 at *
  generalize P.gen.toNat = K1 at *
  obtain ⟨K3, HK3⟩ : ∃ K3, Hid (P.seq.toNat = K3) := ⟨_, rfl⟩
  rw [HK3.out] at hws HS hsl64
  go_enter Try.func66, Try.ntmps66
  go_upto_region 2 with (at_make; refine wpList_make_full _ rfl _ _ 53 rfl (w.heap.size + 1) 5 i0 (.int .u8 0) 1 Try.underlying53 hi hz0 hz1 .i64 .i64 _ _ 256 rfl rfl rfl rfl (by rw [hz2]; omega) (by unfold maxLen; omega) (by rw [World.size_alloc]; exact Nat.le_refl _) ?_; intro W hown1 hgrow1)
  have hbg := below_grown0 hgrow1
  have hg : Blk W (w.alloc (.cells #[.int .i64 P.kind, .int .i64 P.gen, .int .i64 P.part, .int .i64 P.seq, .slice pb nw cb, .slice pw nw cw, .slice pr 0 cr] 42)).heap.size 5 (vals (List.replicate 256 0)) := by rw [← zeros_vals]; exact made_block hown1
  rw [World.size_alloc] at hg
  have hbp := hbp0.kept hbg
  have hB := bt hal hbg
  have hpg : w.heap.size < w.heap.size + 1 := by omega
  clear hown1 hgrow1 hbp0 hal hbg
  obtain ⟨z0, z1, z2, z3, z4, z5, z6⟩ := hbp.cells7
  go_upto_region 3 with (fail)
  clear z0 z1 z2 z3 z4 z5 z6
  generalize w.heap.size + 1 = g at *
  have hgW : g ≤ W.heap.size := Nat.le_of_lt hg.lt
  go_cut [5] from 16 (fun s5 wc => s5 = .int .i64 16 ∧ Blk wc g 5 (vals (headB P)) ∧ Below g W wc)
  case first =>
    refine wp_region_noPanic ?_
    refine wp_region_held_drew (S := fun X => Below g W X) (by kernel_rfl) (Below.refl _ _).drew (fun hHeld => ?_)
    refine wpAnyH_take (i := 0) (v := ?_) rfl (by kernel_rfl) (by kernel_rfl) (by kernel_rfl) (fun _ _ _ h => h) (Or.inl ⟨by rfl, ?_⟩) hHeld ?_
    rotate_left
    · intro w' hSw; try dsimp only at hSw
      go_simp; try (with_reducible rfl)
    try simp only [Act.put, List.getElem_toArray, List.getElem_cons_succ, List.getElem_cons_zero, List.setIfInBounds_toArray, List.set_cons_zero, List.set_cons_succ]
    refine wpAnyH_take (i := 2) (v := ?_) rfl (by kernel_rfl) (by kernel_rfl) (by kernel_rfl) (fun _ _ _ h => h) (Or.inl ⟨by rfl, ?_⟩) hHeld ?_
    rotate_left
    · intro w' hSw; try dsimp only at hSw
      go_simp; try (with_reducible rfl)
    try simp only [Act.put, List.getElem_toArray, List.getElem_cons_succ, List.getElem_cons_zero, List.setIfInBounds_toArray, List.set_cons_zero, List.set_cons_succ]
    refine wpAnyH_take (i := 3) (v := ?_) rfl (by kernel_rfl) (by kernel_rfl) (by kernel_rfl) (fun _ _ _ h => h) (Or.inl ⟨by rfl, ?_⟩) hHeld ?_
    rotate_left
    · intro w' hSw; try dsimp only at hSw
      obtain ⟨z0, z1, z2, z3, z4, z5, z6⟩ := (hbp.below hSw hpg).cells7
      go_simp; try (with_reducible rfl)
    try simp only [Act.put, List.getElem_toArray, List.getElem_cons_succ, List.getElem_cons_zero, List.setIfInBounds_toArray, List.set_cons_zero, List.set_cons_succ]
    refine wpAnyH_take (i := 4) (v := ?_) rfl (by kernel_rfl) (by kernel_rfl) (by kernel_rfl) (fun _ _ _ h => h) (Or.inl ⟨by rfl, ?_⟩) hHeld ?_
    rotate_left
    · intro w' hSw; try dsimp only at hSw
      go_simp; try (with_reducible rfl)
    try simp only [Act.put, List.getElem_toArray, List.getElem_cons_succ, List.getElem_cons_zero, List.setIfInBounds_toArray, List.set_cons_zero, List.set_cons_succ]
    refine wpAnyH_take (i := 5) (v := ?_) rfl (by kernel_rfl) (by kernel_rfl) (by kernel_rfl) (fun _ _ _ h => h) (Or.inl ⟨by rfl, ?_⟩) hHeld ?_
    rotate_left
    · intro w' hSw; try dsimp only at hSw
      go_simp; try (with_reducible rfl)
    try simp only [Act.put, List.getElem_toArray, List.getElem_cons_succ, List.getElem_cons_zero, List.setIfInBounds_toArray, List.set_cons_zero, List.set_cons_succ]
    refine wpAnyH_take (i := 6) (v := ?_) rfl (by kernel_rfl) (by kernel_rfl) (by kernel_rfl) (fun _ _ _ h => h) (Or.inl ⟨by rfl, ?_⟩) hHeld ?_
    rotate_left
    · intro w' hSw; try dsimp only at hSw
      obtain ⟨z0, z1, z2, z3, z4, z5, z6⟩ := (hbp.below hSw hpg).cells7
      go_simp; try (with_reducible rfl)
    try simp only [Act.put, List.getElem_toArray, List.getElem_cons_succ, List.getElem_cons_zero, List.setIfInBounds_toArray, List.set_cons_zero, List.set_cons_succ]
    refine wpAnyH_take (i := 7) (v := ?_) rfl (by kernel_rfl) (by kernel_rfl) (by kernel_rfl) (fun _ _ _ h => h) (Or.inl ⟨by rfl, ?_⟩) hHeld ?_
    rotate_left
    · intro w' hSw; try dsimp only at hSw
      go_simp; try (with_reducible rfl)
    try simp only [Act.put, List.getElem_toArray, List.getElem_cons_succ, List.getElem_cons_zero, List.setIfInBounds_toArray, List.set_cons_zero, List.set_cons_succ]
    refine wpAnyH_take (i := 8) (v := ?_) rfl (by kernel_rfl) (by kernel_rfl) (by kernel_rfl) (fun _ _ _ h => h) (Or.inl ⟨by rfl, ?_⟩) hHeld ?_
    rotate_left
    · intro w' hSw; try dsimp only at hSw
      go_simp; try (with_reducible rfl)
    try simp only [Act.put, List.getElem_toArray, List.getElem_cons_succ, List.getElem_cons_zero, List.setIfInBounds_toArray, List.set_cons_zero, List.set_cons_succ]
    refine wpAnyH_take (i := 9) (v := ?_) rfl (by kernel_rfl) (by kernel_rfl) (by kernel_rfl) (fun _ _ _ h => h) (Or.inl ⟨by rfl, ?_⟩) hHeld ?_
    rotate_left
    · intro w' hSw; try dsimp only at hSw
      go_simp; try (with_reducible rfl)
    try simp only [Act.put, List.getElem_toArray, List.getElem_cons_succ, List.getElem_cons_zero, List.setIfInBounds_toArray, List.set_cons_zero, List.set_cons_succ]
    refine wpAnyH_take (i := 10) (v := ?_) rfl (by kernel_rfl) (by kernel_rfl) (by kernel_rfl) (fun _ _ _ h => h) (Or.inl ⟨by rfl, ?_⟩) hHeld ?_
    rotate_left
    · intro w' hSw; try dsimp only at hSw
      go_simp; try (with_reducible rfl)
    try simp only [Act.put, List.getElem_toArray, List.getElem_cons_succ, List.getElem_cons_zero, List.setIfInBounds_toArray, List.set_cons_zero, List.set_cons_succ]
    refine wpAnyH_take (i := 11) (v := ?_) rfl (by kernel_rfl) (by kernel_rfl) (by kernel_rfl) (fun _ _ _ h => h) (Or.inl ⟨by rfl, ?_⟩) hHeld ?_
    rotate_left
    · intro w' hSw; try dsimp only at hSw
      obtain ⟨z0, z1, z2, z3, z4, z5, z6⟩ := (hbp.below hSw hpg).cells7
      go_simp; try (with_reducible rfl)
    try simp only [Act.put, List.getElem_toArray, List.getElem_cons_succ, List.getElem_cons_zero, List.setIfInBounds_toArray, List.set_cons_zero, List.set_cons_succ]
    refine wpAnyH_take (i := 12) (v := ?_) rfl (by kernel_rfl) (by kernel_rfl) (by kernel_rfl) (fun _ _ _ h => h) (Or.inl ⟨by rfl, ?_⟩) hHeld ?_
    rotate_left
    · intro w' hSw; try dsimp only at hSw
      go_simp; try (with_reducible rfl)
    try simp only [Act.put, List.getElem_toArray, List.getElem_cons_succ, List.getElem_cons_zero, List.setIfInBounds_toArray, List.set_cons_zero, List.set_cons_succ]
    refine wpAnyH_ready (rs := [1, 13]) (by kernel_rfl) (by simp) ?_
    refine AllReadyH.cons rfl (fun K hK => ?_) ?_
    · go_simp
      refine (headW_any _).mono ?_
      rintro e y1 ⟨gw, cw1, rfl, hw1, hb1⟩
      try go_wp2_with fail
      refine hK.out _ _ (hHeld.trans (hb1.mono (Nat.le_trans hgW hHeld.size))) (fun hHeld => ?_)
      clear hK K
      try simp only [Act.put, List.getElem_toArray, List.getElem_cons_succ, List.getElem_cons_zero, List.setIfInBounds_toArray, List.set_cons_zero, List.set_cons_succ]
      refine wpAnyH_ready (rs := [13]) (by kernel_rfl) (by simp) ?_
      refine AllReadyH.cons rfl (fun K hK => ?_) AllReadyH.nil
      go_simp
      refine hK.out _ _ (hHeld.trans ((below_alloc _ _).mono (Nat.le_trans hgW hHeld.size))) (fun hHeld => ?_)
      clear hK K
      try simp only [Act.put, List.getElem_toArray, List.getElem_cons_succ, List.getElem_cons_zero, List.setIfInBounds_toArray, List.set_cons_zero, List.set_cons_succ]
      have hgy := (hg.drew.kept hb1).alloc (.cells #[.int .u64 (K0 : Int), .int .u64 (K2 : Int), .int .u64 (nw : Int), .int .u64 0, .int .u64 (K1 : Int)] 103)
      have hwy := hw1.below (below_alloc y1 (.cells #[.int .u64 (K0 : Int), .int .u64 (K2 : Int), .int .u64 (nw : Int), .int .u64 0, .int .u64 (K1 : Int)] 103))
      have hvy : In64 (y1.alloc (.cells #[.int .u64 (K0 : Int), .int .u64 (K2 : Int), .int .u64 (nw : Int), .int .u64 0, .int .u64 (K1 : Int)] 103)) (some ⟨y1.heap.size, 0, none⟩) 5 5 [K0, K2, nw, 0, K1] := in_lit64 y1 rfl rfl HL.out (by decide)
      refine wpAnyH_ready (rs := [14]) (by kernel_rfl) (by simp) ?_
      refine AllReadyH.cons rfl (fun K hK => ?_) AllReadyH.nil
      go_simp
      refine (put_any g g 256 0 16 (List.replicate 256 0) _ _ 5 _ headW _ 5 5 [K0, K2, nw, 0, K1] _ (Nat.le_refl _) hgy (by simp) (by decide) hwy hvy HH.out bytes_head (by decide) (by decide) rfl).mono ?_
      rintro e y3 ⟨rfl, hg3, hb3, hkp3⟩
      try go_wp2_with fail
      refine hK.out _ _ (hHeld.trans hb3) (fun hHeld => ?_)
      clear hK K
      try simp only [Act.put, List.getElem_toArray, List.getElem_cons_succ, List.getElem_cons_zero, List.setIfInBounds_toArray, List.set_cons_zero, List.set_cons_succ]
      refine wpAnyH_take (i := 15) (v := ?_) rfl (by kernel_rfl) (by kernel_rfl) (by kernel_rfl) (fun _ _ _ h => h) (Or.inl ⟨by rfl, ?_⟩) hHeld ?_
      rotate_left
      · intro w' hSw; try dsimp only at hSw
        go_simp; try (with_reducible rfl)
      try simp only [Act.put, List.getElem_toArray, List.getElem_cons_succ, List.getElem_cons_zero, List.setIfInBounds_toArray, List.set_cons_zero, List.set_cons_succ]
      refine wpAnyH_done (by kernel_rfl) ?_ _
      refine NoPanic.normal ?_
      go_wp2_with fail
      go_meet
      case rel => exact ⟨rfl, by rw [HB.out]; exact hg3, hHeld⟩
    refine AllReadyH.cons rfl (fun K hK => ?_) AllReadyH.nil
    go_simp
    refine hK.out _ _ (hHeld.trans ((below_alloc _ _).mono (Nat.le_trans hgW hHeld.size))) (fun hHeld => ?_)
    clear hK K
    try simp only [Act.put, List.getElem_toArray, List.getElem_cons_succ, List.getElem_cons_zero, List.setIfInBounds_toArray, List.set_cons_zero, List.set_cons_succ]
    refine wpAnyH_ready (rs := [1]) (by kernel_rfl) (by simp) ?_
    refine AllReadyH.cons rfl (fun K hK => ?_) AllReadyH.nil
    go_simp
    refine (headW_any _).mono ?_
    rintro e y1 ⟨gw, cw1, rfl, hw1, hb1⟩
    try go_wp2_with fail
    refine hK.out _ _ (hHeld.trans (hb1.mono (Nat.le_trans hgW hHeld.size))) (fun hHeld => ?_)
    clear hK K
    try simp only [Act.put, List.getElem_toArray, List.getElem_cons_succ, List.getElem_cons_zero, List.setIfInBounds_toArray, List.set_cons_zero, List.set_cons_succ]
    have hgy := (hg.alloc (.cells #[.int .u64 (K0 : Int), .int .u64 (K2 : Int), .int .u64 (nw : Int), .int .u64 0, .int .u64 (K1 : Int)] 103)).drew.kept hb1
    have hwy := hw1
    have hvy := ((in_lit64 (xs := [K0, K2, nw, 0, K1]) (n := 5) W (cs := #[.int .u64 (K0 : Int), .int .u64 (K2 : Int), .int .u64 (nw : Int), .int .u64 0, .int .u64 (K1 : Int)]) rfl rfl HL.out (by decide)).below (Below.refl _ _).drew).below hb1
    refine wpAnyH_ready (rs := [14]) (by kernel_rfl) (by simp) ?_
    refine AllReadyH.cons rfl (fun K hK => ?_) AllReadyH.nil
    go_simp
    refine (put_any g g 256 0 16 (List.replicate 256 0) _ _ 5 _ headW _ 5 5 [K0, K2, nw, 0, K1] _ (Nat.le_refl _) hgy (by simp) (by decide) hwy hvy HH.out bytes_head (by decide) (by decide) rfl).mono ?_
    rintro e y3 ⟨rfl, hg3, hb3, hkp3⟩
    try go_wp2_with fail
    refine hK.out _ _ (hHeld.trans hb3) (fun hHeld => ?_)
    clear hK K
    try simp only [Act.put, List.getElem_toArray, List.getElem_cons_succ, List.getElem_cons_zero, List.setIfInBounds_toArray, List.set_cons_zero, List.set_cons_succ]
    refine wpAnyH_take (i := 15) (v := ?_) rfl (by kernel_rfl) (by kernel_rfl) (by kernel_rfl) (fun _ _ _ h => h) (Or.inl ⟨by rfl, ?_⟩) hHeld ?_
    rotate_left
    · intro w' hSw; try dsimp only at hSw
      go_simp; try (with_reducible rfl)
    try simp only [Act.put, List.getElem_toArray, List.getElem_cons_succ, List.getElem_cons_zero, List.setIfInBounds_toArray, List.set_cons_zero, List.set_cons_succ]
    refine wpAnyH_done (by kernel_rfl) ?_ _
    refine NoPanic.normal ?_
    go_wp2_with fail
    go_meet
    case rel => exact ⟨rfl, by rw [HB.out]; exact hg3, hHeld⟩
  case rest =>
    obtain ⟨rfl, hg2, hb2⟩ := hcut
    have hbp2 := hbp.below hb2 hpg
    replace hB : Below w.heap.size w wc := hB.trans (hb2.mono (Nat.le_of_lt hpg))
    clear hg hbp hb2 hgW
    generalize headB P = X at *
    have hg := hg2
    have hbp := hbp2
    clear hg2 hbp2
    have hgW : g ≤ wc.heap.size := Nat.le_of_lt hg.lt
    obtain ⟨z0, z1, z2, z3, z4, z5, z6⟩ := hbp.cells7
    go_upto_region 6 with (fail)
    clear z0 z1 z2 z3 z4 z5 z6
    generalize wc = W at *
    go_cut [5] from 35 (fun s5 wc => s5 = .int .i64 24 ∧ Blk wc g 5 (vals (splice X 16 (packL [64] [K3]))) ∧ Below g W wc)
    case first =>
      refine wp_region_noPanic ?_
      refine wp_region_held_drew (S := fun X => Below g W X) (by kernel_rfl) (Below.refl _ _).drew (fun hHeld => ?_)
      refine wpAnyH_take (i := 0) (v := ?_) rfl (by kernel_rfl) (by kernel_rfl) (by kernel_rfl) (fun _ _ _ h => h) (Or.inl ⟨by rfl, ?_⟩) hHeld ?_
      rotate_left
      · intro w' hSw; try dsimp only at hSw
        go_simp; try (with_reducible rfl)
      try simp only [Act.put, List.getElem_toArray, List.getElem_cons_succ, List.getElem_cons_zero, List.setIfInBounds_toArray, List.set_cons_zero, List.set_cons_succ]
      refine wpAnyH_take (i := 1) (v := ?_) rfl (by kernel_rfl) (by kernel_rfl) (by kernel_rfl) (fun _ _ _ h => h) (Or.inl ⟨by rfl, ?_⟩) hHeld ?_
      rotate_left
      · intro w' hSw; try dsimp only at hSw
        go_simp; try (with_reducible rfl)
      try simp only [Act.put, List.getElem_toArray, List.getElem_cons_succ, List.getElem_cons_zero, List.setIfInBounds_toArray, List.set_cons_zero, List.set_cons_succ]
      refine wpAnyH_take (i := 3) (v := ?_) rfl (by kernel_rfl) (by kernel_rfl) (by kernel_rfl) (fun _ _ _ h => h) (Or.inl ⟨by rfl, ?_⟩) hHeld ?_
      rotate_left
      · intro w' hSw; try dsimp only at hSw
        go_simp; try (with_reducible rfl)
      try simp only [Act.put, List.getElem_toArray, List.getElem_cons_succ, List.getElem_cons_zero, List.setIfInBounds_toArray, List.set_cons_zero, List.set_cons_succ]
      refine wpAnyH_take (i := 4) (v := ?_) rfl (by kernel_rfl) (by kernel_rfl) (by kernel_rfl) (fun _ _ _ h => h) (Or.inl ⟨by rfl, ?_⟩) hHeld ?_
      rotate_left
      · intro w' hSw; try dsimp only at hSw
        obtain ⟨z0, z1, z2, z3, z4, z5, z6⟩ := (hbp.below hSw hpg).cells7
        go_simp; try (with_reducible rfl)
      try simp only [Act.put, List.getElem_toArray, List.getElem_cons_succ, List.getElem_cons_zero, List.setIfInBounds_toArray, List.set_cons_zero, List.set_cons_succ]
      refine wpAnyH_take (i := 5) (v := ?_) rfl (by kernel_rfl) (by kernel_rfl) (by kernel_rfl) (fun _ _ _ h => h) (Or.inl ⟨by rfl, ?_⟩) hHeld ?_
      rotate_left
      · intro w' hSw; try dsimp only at hSw
        go_simp; try (with_reducible rfl)
      try simp only [Act.put, List.getElem_toArray, List.getElem_cons_succ, List.getElem_cons_zero, List.setIfInBounds_toArray, List.set_cons_zero, List.set_cons_succ]
      refine wpAnyH_ready (rs := [2, 6]) (by kernel_rfl) (by simp) ?_
      refine AllReadyH.cons rfl (fun K hK => ?_) ?_
      · go_simp
        refine (seqW_any _).mono ?_
        rintro e y1 ⟨gw, cw1, rfl, hw1, hb1⟩
        try go_wp2_with fail
        refine hK.out _ _ (hHeld.trans (hb1.mono (Nat.le_trans hgW hHeld.size))) (fun hHeld => ?_)
        clear hK K
        try simp only [Act.put, List.getElem_toArray, List.getElem_cons_succ, List.getElem_cons_zero, List.setIfInBounds_toArray, List.set_cons_zero, List.set_cons_succ]
        refine wpAnyH_ready (rs := [6]) (by kernel_rfl) (by simp) ?_
        refine AllReadyH.cons rfl (fun K hK => ?_) AllReadyH.nil
        go_simp
        refine hK.out _ _ (hHeld.trans ((below_alloc _ _).mono (Nat.le_trans hgW hHeld.size))) (fun hHeld => ?_)
        clear hK K
        try simp only [Act.put, List.getElem_toArray, List.getElem_cons_succ, List.getElem_cons_zero, List.setIfInBounds_toArray, List.set_cons_zero, List.set_cons_succ]
        have hgy := (hg.drew.kept hb1).alloc (.cells #[.int .u64 (K3 : Int)] 103)
        have hwy := hw1.below (below_alloc y1 (.cells #[.int .u64 (K3 : Int)] 103))
        have hvy : In64 (y1.alloc (.cells #[.int .u64 (K3 : Int)] 103)) (some ⟨y1.heap.size, 0, none⟩) 1 1 [K3] := in_lit64 y1 rfl rfl (by simpa using hsl64) (by decide)
        refine wpAnyH_ready (rs := [7]) (by kernel_rfl) (by simp) ?_
        refine AllReadyH.cons rfl (fun K hK => ?_) AllReadyH.nil
        go_simp
        refine (put_any g g 256 16 8 X _ _ 1 _ [64] _ 1 1 [K3] _ (Nat.le_refl _) hgy HBL.out (by decide) hwy hvy HS.out bytes_seq (by decide) (by decide) rfl).mono ?_
        rintro e y3 ⟨rfl, hg3, hb3, hkp3⟩
        try go_wp2_with fail
        refine hK.out _ _ (hHeld.trans hb3) (fun hHeld => ?_)
        clear hK K
        try simp only [Act.put, List.getElem_toArray, List.getElem_cons_succ, List.getElem_cons_zero, List.setIfInBounds_toArray, List.set_cons_zero, List.set_cons_succ]
        refine wpAnyH_take (i := 8) (v := ?_) rfl (by kernel_rfl) (by kernel_rfl) (by kernel_rfl) (fun _ _ _ h => h) (Or.inl ⟨by rfl, ?_⟩) hHeld ?_
        rotate_left
        · intro w' hSw; try dsimp only at hSw
          go_simp; try (with_reducible rfl)
        try simp only [Act.put, List.getElem_toArray, List.getElem_cons_succ, List.getElem_cons_zero, List.setIfInBounds_toArray, List.set_cons_zero, List.set_cons_succ]
        refine wpAnyH_done (by kernel_rfl) ?_ _
        refine NoPanic.normal ?_
        go_wp2_with fail
        go_meet
        case rel => exact ⟨rfl, hg3, hHeld⟩
      refine AllReadyH.cons rfl (fun K hK => ?_) AllReadyH.nil
      go_simp
      refine hK.out _ _ (hHeld.trans ((below_alloc _ _).mono (Nat.le_trans hgW hHeld.size))) (fun hHeld => ?_)
      clear hK K
      try simp only [Act.put, List.getElem_toArray, List.getElem_cons_succ, List.getElem_cons_zero, List.setIfInBounds_toArray, List.set_cons_zero, List.set_cons_succ]
      refine wpAnyH_ready (rs := [2]) (by kernel_rfl) (by simp) ?_
      refine AllReadyH.cons rfl (fun K hK => ?_) AllReadyH.nil
      go_simp
      refine (seqW_any _).mono ?_
      rintro e y1 ⟨gw, cw1, rfl, hw1, hb1⟩
      try go_wp2_with fail
      refine hK.out _ _ (hHeld.trans (hb1.mono (Nat.le_trans hgW hHeld.size))) (fun hHeld => ?_)
      clear hK K
      try simp only [Act.put, List.getElem_toArray, List.getElem_cons_succ, List.getElem_cons_zero, List.setIfInBounds_toArray, List.set_cons_zero, List.set_cons_succ]
      have hgy := (hg.alloc (.cells #[.int .u64 (K3 : Int)] 103)).drew.kept hb1
      have hwy := hw1
      have hvy := ((in_lit64 (xs := [K3]) (n := 1) W (cs := #[.int .u64 (K3 : Int)]) rfl rfl (by simpa using hsl64) (by decide)).below (Below.refl _ _).drew).below hb1
      refine wpAnyH_ready (rs := [7]) (by kernel_rfl) (by simp) ?_
      refine AllReadyH.cons rfl (fun K hK => ?_) AllReadyH.nil
      go_simp
      refine (put_any g g 256 16 8 X _ _ 1 _ [64] _ 1 1 [K3] _ (Nat.le_refl _) hgy HBL.out (by decide) hwy hvy HS.out bytes_seq (by decide) (by decide) rfl).mono ?_
      rintro e y3 ⟨rfl, hg3, hb3, hkp3⟩
      try go_wp2_with fail
      refine hK.out _ _ (hHeld.trans hb3) (fun hHeld => ?_)
      clear hK K
      try simp only [Act.put, List.getElem_toArray, List.getElem_cons_succ, List.getElem_cons_zero, List.setIfInBounds_toArray, List.set_cons_zero, List.set_cons_succ]
      refine wpAnyH_take (i := 8) (v := ?_) rfl (by kernel_rfl) (by kernel_rfl) (by kernel_rfl) (fun _ _ _ h => h) (Or.inl ⟨by rfl, ?_⟩) hHeld ?_
      rotate_left
      · intro w' hSw; try dsimp only at hSw
        go_simp; try (with_reducible rfl)
      try simp only [Act.put, List.getElem_toArray, List.getElem_cons_succ, List.getElem_cons_zero, List.setIfInBounds_toArray, List.set_cons_zero, List.set_cons_succ]
      refine wpAnyH_done (by kernel_rfl) ?_ _
      refine NoPanic.normal ?_
      go_wp2_with fail
      go_meet
      case rel => exact ⟨rfl, hg3, hHeld⟩
    case rest =>
      obtain ⟨rfl, hg2, hb2⟩ := hcut
      have hbp2 := hbp.below hb2 hpg
      replace hB : Below w.heap.size w wc := hB.trans (hb2.mono (Nat.le_of_lt hpg))
      clear hg hbp hb2 hgW
      have hg := hg2
      have hbp := hbp2
      clear hg2 hbp2
      have hgW : g ≤ wc.heap.size := Nat.le_of_lt hg.lt
      have HX2 : Hid ((splice X 16 (packL [64] [K3])).length = 256) := by show _ = _; rw [splice_length (by rw [packL_length HS.out, bytes_seq, HBL.out]; omega)]; exact HBL.out
      have HE2 : Hid (splice X 16 (packL [64] [P.seq.toNat]) = splice X 16 (packL [64] [K3])) := by show _ = _; rw [HK3.out]
      generalize splice X 16 (packL [64] [K3]) = X2 at *
      generalize wc = W at *
      go_upto_region 7 with (fail)
      have hsl7 : ∀ W : World, (Instr.slice 53 (.slice (some ⟨g, 0, none⟩) 256 256) (some (.int .i64 24)) none none).run Try.prog W = .ok (.slice (some ⟨g, 24, none⟩) 232 232) W := fun W => slice_lo g 0 256 256 24 (by decide) (by decide) W
      refine wp_region_noPanic ?_
      refine wp_region_held_drew (S := fun X => Below g W X) (by kernel_rfl) (Below.refl _ _).drew (fun hHeld => ?_)
      refine wpAnyH_take (i := 0) (v := ?_) rfl (by kernel_rfl) (by kernel_rfl) (by kernel_rfl) (fun _ _ _ h => h) (Or.inl ⟨by rfl, ?_⟩) hHeld ?_
      rotate_left
      · intro w' hSw; try dsimp only at hSw
        go_simp; try (with_reducible rfl)
      try simp only [Act.put, List.getElem_toArray, List.getElem_cons_succ, List.getElem_cons_zero, List.setIfInBounds_toArray, List.set_cons_zero, List.set_cons_succ]
      refine wpAnyH_take (i := 1) (v := ?_) rfl (by kernel_rfl) (by kernel_rfl) (by kernel_rfl) (fun _ _ _ h => h) (Or.inl ⟨by rfl, ?_⟩) hHeld ?_
      rotate_left
      · intro w' hSw; try dsimp only at hSw
        go_simp; try (with_reducible rfl)
      try simp only [Act.put, List.getElem_toArray, List.getElem_cons_succ, List.getElem_cons_zero, List.setIfInBounds_toArray, List.set_cons_zero, List.set_cons_succ]
      refine wpAnyH_take (i := 2) (v := ?_) rfl (by kernel_rfl) (by kernel_rfl) (by kernel_rfl) (fun _ _ _ h => h) (Or.inl ⟨by rfl, ?_⟩) hHeld ?_
      rotate_left
      · intro w' hSw; try dsimp only at hSw
        go_simp; try (with_reducible rfl)
      try simp only [Act.put, List.getElem_toArray, List.getElem_cons_succ, List.getElem_cons_zero, List.setIfInBounds_toArray, List.set_cons_zero, List.set_cons_succ]
      refine wpAnyH_take (i := 3) (v := ?_) rfl (by kernel_rfl) (by kernel_rfl) (by kernel_rfl) (fun _ _ _ h => h) (Or.inl ⟨by rfl, ?_⟩) hHeld ?_
      rotate_left
      · intro w' hSw; try dsimp only at hSw
        go_simp; try (with_reducible rfl)
      try simp only [Act.put, List.getElem_toArray, List.getElem_cons_succ, List.getElem_cons_zero, List.setIfInBounds_toArray, List.set_cons_zero, List.set_cons_succ]
      refine wpAnyH_take (i := 4) (v := ?_) rfl (by kernel_rfl) (by kernel_rfl) (by kernel_rfl) (fun _ _ _ h => h) (Or.inl ⟨by rfl, ?_⟩) hHeld ?_
      rotate_left
      · intro w' hSw; try dsimp only at hSw
        go_simp; try (with_reducible rfl)
      try simp only [Act.put, List.getElem_toArray, List.getElem_cons_succ, List.getElem_cons_zero, List.setIfInBounds_toArray, List.set_cons_zero, List.set_cons_succ]
      refine wpAnyH_take (i := 5) (v := ?_) rfl (by kernel_rfl) (by kernel_rfl) (by kernel_rfl) (fun _ _ _ h => h) (Or.inl ⟨by rfl, ?_⟩) hHeld ?_
      rotate_left
      · intro w' hSw; try dsimp only at hSw
        obtain ⟨z0, z1, z2, z3, z4, z5, z6⟩ := (hbp.below hSw hpg).cells7
        go_simp; try (with_reducible rfl)
      try simp only [Act.put, List.getElem_toArray, List.getElem_cons_succ, List.getElem_cons_zero, List.setIfInBounds_toArray, List.set_cons_zero, List.set_cons_succ]
      refine wpAnyH_ready (rs := [6]) (by kernel_rfl) (by simp) ?_
      refine AllReadyH.cons rfl (fun K hK => ?_) AllReadyH.nil
      go_simp
      refine (bitsOf_any _ nw _ P.bad _ (hP.b.below hB.drew) (by omega)).mono ?_
      rintro e y1 ⟨gb1, rfl, hin1, hb1⟩
      try go_wp2_with fail
      refine hK.out _ _ (hHeld.trans (hb1.mono (Nat.le_trans hgW hHeld.size))) (fun hHeld => ?_)
      clear hK K
      try simp only [Act.put, List.getElem_toArray, List.getElem_cons_succ, List.getElem_cons_zero, List.setIfInBounds_toArray, List.set_cons_zero, List.set_cons_succ]
      obtain ⟨y2, hcp, hg4, ht4⟩ := copy_at (N := 256) (k := 24) (m := 8) (d := 232) (hg.drew.kept hb1) HX2.out hin1 (by decide) (by decide)
      have hcp2 : (Builtin.copy_ #[53, 53] 3 #[.slice (some ⟨g, 24, none⟩) 232 232, .slice (some ⟨gb1, 0, none⟩) 8 8]).run Try.prog y1 = .ok (.int .i64 8) y2 := hcp
      clear hcp
      refine wpAnyH_ready (rs := [7]) (by kernel_rfl) (by simp) ?_
      refine AllReadyH.cons rfl (fun K hK => ?_) AllReadyH.nil
      go_simp
      refine hK.out _ _ (ht4.below hHeld (Nat.le_refl _)) (fun hHeld => ?_)
      clear hK K
      try simp only [Act.put, List.getElem_toArray, List.getElem_cons_succ, List.getElem_cons_zero, List.setIfInBounds_toArray, List.set_cons_zero, List.set_cons_succ]
      refine wpAnyH_take (i := 8) (v := ?_) rfl (by kernel_rfl) (by kernel_rfl) (by kernel_rfl) (fun _ _ _ h => h) (Or.inl ⟨by rfl, ?_⟩) hHeld ?_
      rotate_left
      · intro w' hSw; try dsimp only at hSw
        go_simp; try (with_reducible rfl)
      try simp only [Act.put, List.getElem_toArray, List.getElem_cons_succ, List.getElem_cons_zero, List.setIfInBounds_toArray, List.set_cons_zero, List.set_cons_succ]
      refine wpAnyH_take (i := 9) (v := ?_) rfl (by kernel_rfl) (by kernel_rfl) (by kernel_rfl) (fun _ _ _ h => h) (Or.inl ⟨by rfl, ?_⟩) hHeld ?_
      rotate_left
      · intro w' hSw; try dsimp only at hSw
        go_simp; try (with_reducible rfl)
      try simp only [Act.put, List.getElem_toArray, List.getElem_cons_succ, List.getElem_cons_zero, List.setIfInBounds_toArray, List.set_cons_zero, List.set_cons_succ]
      refine wpAnyH_done (by kernel_rfl) ?_ _
      refine NoPanic.normal ?_
      clear hcp2 hsl7
      have hbp2 := hbp.below hHeld hpg
      replace hB : Below w.heap.size w y2 := hB.trans (hHeld.mono (Nat.le_of_lt hpg))
      clear hg hbp hgW ht4 hb1 hin1 hHeld
      have hg := hg4
      have hbp := hbp2
      clear hg4 hbp2
      have hgW : g ≤ y2.heap.size := Nat.le_of_lt hg.lt
      have HX3 : Hid ((splice X2 24 (bitsTo P.bad nw)).length = 256) := by show _ = _; rw [splice_length (by rw [bitsTo_length, HX2.out]; decide)]; exact HX2.out
      have HE3 : Hid (splice X2 24 (bitsTo P.bad P.bad.length) = splice X2 24 (bitsTo P.bad nw)) := by show _ = _; rw [hlb]
      generalize splice X2 24 (bitsTo P.bad nw) = X3 at *
      generalize y2 = W at *
      go_upto_region 8 with (fail)
      refine wp_region_noPanic ?_
      refine wp_region_held_drew (S := fun X => Below g W X) (by kernel_rfl) (Below.refl _ _).drew (fun hHeld => ?_)
      refine wpAnyH_take (i := 0) (v := ?_) rfl (by kernel_rfl) (by kernel_rfl) (by kernel_rfl) (fun _ _ _ h => h) (Or.inl ⟨by rfl, ?_⟩) hHeld ?_
      rotate_left
      · intro w' hSw; try dsimp only at hSw
        go_simp; try (with_reducible rfl)
      try simp only [Act.put, List.getElem_toArray, List.getElem_cons_succ, List.getElem_cons_zero, List.setIfInBounds_toArray, List.set_cons_zero, List.set_cons_succ]
      refine wpAnyH_take (i := 1) (v := ?_) rfl (by kernel_rfl) (by kernel_rfl) (by kernel_rfl) (fun _ _ _ h => h) (Or.inl ⟨by rfl, ?_⟩) hHeld ?_
      rotate_left
      · intro w' hSw; try dsimp only at hSw
        go_simp; try (with_reducible rfl)
      try simp only [Act.put, List.getElem_toArray, List.getElem_cons_succ, List.getElem_cons_zero, List.setIfInBounds_toArray, List.set_cons_zero, List.set_cons_succ]
      refine wpAnyH_take (i := 2) (v := ?_) rfl (by kernel_rfl) (by kernel_rfl) (by kernel_rfl) (fun _ _ _ h => h) (Or.inl ⟨by rfl, ?_⟩) hHeld ?_
      rotate_left
      · intro w' hSw; try dsimp only at hSw
        go_simp; try (with_reducible rfl)
      try simp only [Act.put, List.getElem_toArray, List.getElem_cons_succ, List.getElem_cons_zero, List.setIfInBounds_toArray, List.set_cons_zero, List.set_cons_succ]
      refine wpAnyH_take (i := 4) (v := ?_) rfl (by kernel_rfl) (by kernel_rfl) (by kernel_rfl) (fun _ _ _ h => h) (Or.inl ⟨by rfl, ?_⟩) hHeld ?_
      rotate_left
      · intro w' hSw; try dsimp only at hSw
        go_simp; try (with_reducible rfl)
      try simp only [Act.put, List.getElem_toArray, List.getElem_cons_succ, List.getElem_cons_zero, List.setIfInBounds_toArray, List.set_cons_zero, List.set_cons_succ]
      refine wpAnyH_take (i := 5) (v := ?_) rfl (by kernel_rfl) (by kernel_rfl) (by kernel_rfl) (fun _ _ _ h => h) (Or.inl ⟨by rfl, ?_⟩) hHeld ?_
      rotate_left
      · intro w' hSw; try dsimp only at hSw
        obtain ⟨z0, z1, z2, z3, z4, z5, z6⟩ := (hbp.below hSw hpg).cells7
        go_simp; try (with_reducible rfl)
      try simp only [Act.put, List.getElem_toArray, List.getElem_cons_succ, List.getElem_cons_zero, List.setIfInBounds_toArray, List.set_cons_zero, List.set_cons_succ]
      refine wpAnyH_ready (rs := [3]) (by kernel_rfl) (by simp) ?_
      refine AllReadyH.cons rfl (fun K hK => ?_) AllReadyH.nil
      go_simp
      refine (wearW_any' nw (by omega) (by omega) _).mono ?_
      rintro e y1 ⟨gw, cw1, rfl, hw1, hb1⟩
      try go_wp2_with fail
      refine hK.out _ _ (hHeld.trans (hb1.mono (Nat.le_trans hgW hHeld.size))) (fun hHeld => ?_)
      clear hK K
      try simp only [Act.put, List.getElem_toArray, List.getElem_cons_succ, List.getElem_cons_zero, List.setIfInBounds_toArray, List.set_cons_zero, List.set_cons_succ]
      refine wpAnyH_ready (rs := [6]) (by kernel_rfl) (by simp) ?_
      refine AllReadyH.cons rfl (fun K hK => ?_) AllReadyH.nil
      go_simp
      refine (unsigned_any _ nw _ P.wear _ (hP.v.below (bt hB.drew hb1)) (by omega) HW.out).mono ?_
      rintro e y2 ⟨vp, vc, rfl, hv2, hb2⟩
      try go_wp2_with fail
      refine hK.out _ _ (hHeld.trans (hb2.mono (Nat.le_trans hgW hHeld.size))) (fun hHeld => ?_)
      clear hK K
      try simp only [Act.put, List.getElem_toArray, List.getElem_cons_succ, List.getElem_cons_zero, List.setIfInBounds_toArray, List.set_cons_zero, List.set_cons_succ]
      refine wpAnyH_ready (rs := [7]) (by kernel_rfl) (by simp) ?_
      refine AllReadyH.cons rfl (fun K hK => ?_) AllReadyH.nil
      go_simp
      refine (put_any g g 256 32 (3 * nw) X3 _ _ nw _ (List.replicate nw 24) _ nw _ (natsL P.wear) _ (Nat.le_refl _) ((hg.drew.kept hb1).kept hb2) HX3.out (by decide) (hw1.below hb2) hv2 (wearOk hlw (by omega) HW.out) (bytes_wear nw) (by omega) (by omega) rfl).mono ?_
      rintro e y3 ⟨rfl, hg3, hb3, hkp3⟩
      try go_wp2_with fail
      refine hK.out _ _ (hHeld.trans hb3) (fun hHeld => ?_)
      clear hK K
      try simp only [Act.put, List.getElem_toArray, List.getElem_cons_succ, List.getElem_cons_zero, List.setIfInBounds_toArray, List.set_cons_zero, List.set_cons_succ]
      refine wpAnyH_done (by kernel_rfl) ?_ _
      refine NoPanic.normal ?_
      go_wp2_with fail
      go_ret
      refine ⟨g, rfl, ?_, Nat.le_of_lt hpg, hB.trans (hHeld.mono (Nat.le_of_lt hpg))⟩
      rw [E.out]
      unfold partB
      rw [HE2.out, HE3.out, hlb]
      exact hg3
end Go.Proofs.Ytpikaagdiafieaa
