/-
  What write makes of records.
-/
import Derived.Test.YtpikaagdiafieaaMjB5
namespace Go.Proofs.Ytpikaagdiafieaa
open Go.RowKit
set_option linter.unusedSimpArgs false in
set_option maxRecDepth 100000 in
set_option maxHeartbeats 4000000 in
theorem write_recs (V : PV) (P : MP) (w : World) (hP : InP w V P) (hok : okMP P = true) (hk : ¬ P.kind = 1) :
    Calls Try.prog 66 #[V.val P] w (ResY w (writeL P)) := by
  obtain ⟨i0, hi, hz0, hz1, hz2⟩ := info_parts info5
  obtain ⟨pb, nb, cb, pw, nw, cw, pr, nr, cr⟩ := V
  have hlb : P.bad.length = nb := hP.b.len
  have hlw : P.wear.length = nw := hP.v.len
  have hlr : P.recs.length = nr := hP.r.len
  have E : Hid (writeL P = recsB (headB P) P.recs P.recs.length) := by show _ = _; unfold writeL; rw [if_neg hk]
  obtain ⟨hk2, hp, hs, hn, hm, hr, hall⟩ := okMP_recs hok hk
  have hhv := kept_recs hok hk
  rw [hlr] at hhv hr
  rw [hlb] at hn
  rw [hlw] at hm
  subst hn
  subst hm
  have bk1 : (P.kind == 1) = false := by simpa using hk
  have bk2 : (P.kind == 2) = true := by simpa using hk2
  have hkk : 0 ≤ P.kind ∧ P.kind ≤ 1152921504606846976 := by omega
  replace hp : 0 ≤ P.part ∧ P.part ≤ 3 := by omega
  have HH : Hid (packOk headW [P.kind.toNat, P.part.toNat, nr, 0, P.gen.toNat] = true) := by show _ = _; rw [← hhv]; exact headOk hok
  have HB : Hid (headB P = splice (List.replicate 256 0) 0 (packL headW [P.kind.toNat, P.part.toNat, nr, 0, P.gen.toNat])) := by show _ = _; unfold headB; rw [hhv]
  have HBL : Hid ((headB P).length = 256) := headB_length hok
  have hg0 := (okMP_iff.1 hok).1
  have hwk := wrap_u64 hkk.1 hkk.2
  have hwp : IntKind.u64.wrap P.part = ((P.part.toNat : Nat) : Int) := wrap_u64 hp.1 (by omega)
  have hwg := wrap_u64 hg0.1 hg0.2
  have hwm : IntKind.u64.wrap (nr : Int) = (nr : Int) := wrap_u64n (by omega)
  have HL : Hid (∀ x ∈ [P.kind.toNat, P.part.toNat, nr, 0, P.gen.toNat], x < 18446744073709551616) := by
    intro x hx
    have h1 := hkk.2; have h2 := hp.2; have h3 := hg0.2
    simp only [List.mem_cons, List.not_mem_nil, or_false] at hx
    omega
  have hbp0 : Blk _ _ _ (PV.cells ⟨pb, 0, cb, pw, 0, cw, pr, nr, cr⟩ P) := Blk.new' w 42 #[.int .i64 P.kind, .int .i64 P.gen, .int .i64 P.part, .int .i64 P.seq, .slice pb 0 cb, .slice pw 0 cw, .slice pr nr cr]
  have hal := below_alloc w (.cells #[.int .i64 P.kind, .int .i64 P.gen, .int .i64 P.part, .int .i64 P.seq, .slice pb 0 cb, .slice pw 0 cw, .slice pr nr cr] 42)
  clear hhv hok hkk hg0 hk hk2 hs
  generalize P.kind.toNat = K0 at *
  generalize P.part.toNat = K2 at *
  generalize P.gen.toNat = K1 at *
  go_enter Try.func66, Try.ntmps66
  go_upto_region 2 with (at_make; refine wpList_make_full _ rfl _ _ 53 rfl (w.heap.size + 1) 5 i0 (.int .u8 0) 1 Try.underlying53 hi hz0 hz1 .i64 .i64 _ _ 256 rfl rfl rfl rfl (by rw [hz2]; omega) (by unfold maxLen; omega) (by rw [World.size_alloc]; exact Nat.le_refl _) ?_; intro W hown1 hgrow1)
  have hbg := below_grown0 hgrow1
  have hg : Blk W (w.alloc (.cells #[.int .i64 P.kind, .int .i64 P.gen, .int .i64 P.part, .int .i64 P.seq, .slice pb 0 cb, .slice pw 0 cw, .slice pr nr cr] 42)).heap.size 5 (vals (List.replicate 256 0)) := by rw [← zeros_vals]; exact made_block hown1
  rw [World.size_alloc] at hg
  have hbp := hbp0.kept hbg
  have hB := bt hal hbg
  have hpg : w.heap.size < w.heap.size + 1 := by omega
  clear hown1 hgrow1 hbp0 hal hbg
  obtain ⟨z0, z1, z2, z3, z4, z5, z6⟩ := hbp.cells7
  go_upto_region 3 with (fail)
  clear z0 z1 z2 z3 z4 z5 z6
  generalize w.heap.size + 1 = g at *
  have hgW : g ≤ W.heap.size := Nat.le_of_lt hg.lt
  go_cut [5] from 16 (fun s5 wc => s5 = .int .i64 16 ∧ Blk wc g 5 (vals (headB P)) ∧ Below g W wc)
  case first =>
    refine wp_region_noPanic ?_
    refine wp_region_held_drew (S := fun X => Below g W X) (by kernel_rfl) (Below.refl _ _).drew (fun hHeld => ?_)
    refine wpAnyH_take (i := 0) (v := ?_) rfl (by kernel_rfl) (by kernel_rfl) (by kernel_rfl) (fun _ _ _ h => h) (Or.inl ⟨by rfl, ?_⟩) hHeld ?_
    rotate_left
    · intro w' hSw; try dsimp only at hSw
      go_simp; try (with_reducible rfl)
    try simp only [Act.put, List.getElem_toArray, List.getElem_cons_succ, List.getElem_cons_zero, List.setIfInBounds_toArray, List.set_cons_zero, List.set_cons_succ]
    refine wpAnyH_take (i := 2) (v := ?_) rfl (by kernel_rfl) (by kernel_rfl) (by kernel_rfl) (fun _ _ _ h => h) (Or.inl ⟨by rfl, ?_⟩) hHeld ?_
    rotate_left
    · intro w' hSw; try dsimp only at hSw
      go_simp; try (with_reducible rfl)
    try simp only [Act.put, List.getElem_toArray, List.getElem_cons_succ, List.getElem_cons_zero, List.setIfInBounds_toArray, List.set_cons_zero, List.set_cons_succ]
    refine wpAnyH_take (i := 3) (v := ?_) rfl (by kernel_rfl) (by kernel_rfl) (by kernel_rfl) (fun _ _ _ h => h) (Or.inl ⟨by rfl, ?_⟩) hHeld ?_
    rotate_left
    · intro w' hSw; try dsimp only at hSw
      obtain ⟨z0, z1, z2, z3, z4, z5, z6⟩ := (hbp.below hSw hpg).cells7
      go_simp; try (with_reducible rfl)
    try simp only [Act.put, List.getElem_toArray, List.getElem_cons_succ, List.getElem_cons_zero, List.setIfInBounds_toArray, List.set_cons_zero, List.set_cons_succ]
    refine wpAnyH_take (i := 4) (v := ?_) rfl (by kernel_rfl) (by kernel_rfl) (by kernel_rfl) (fun _ _ _ h => h) (Or.inl ⟨by rfl, ?_⟩) hHeld ?_
    rotate_left
    · intro w' hSw; try dsimp only at hSw
      go_simp; try (with_reducible rfl)
    try simp only [Act.put, List.getElem_toArray, List.getElem_cons_succ, List.getElem_cons_zero, List.setIfInBounds_toArray, List.set_cons_zero, List.set_cons_succ]
    refine wpAnyH_take (i := 5) (v := ?_) rfl (by kernel_rfl) (by kernel_rfl) (by kernel_rfl) (fun _ _ _ h => h) (Or.inl ⟨by rfl, ?_⟩) hHeld ?_
    rotate_left
    · intro w' hSw; try dsimp only at hSw
      go_simp; try (with_reducible rfl)
    try simp only [Act.put, List.getElem_toArray, List.getElem_cons_succ, List.getElem_cons_zero, List.setIfInBounds_toArray, List.set_cons_zero, List.set_cons_succ]
    refine wpAnyH_take (i := 6) (v := ?_) rfl (by kernel_rfl) (by kernel_rfl) (by kernel_rfl) (fun _ _ _ h => h) (Or.inl ⟨by rfl, ?_⟩) hHeld ?_
    rotate_left
    · intro w' hSw; try dsimp only at hSw
      obtain ⟨z0, z1, z2, z3, z4, z5, z6⟩ := (hbp.below hSw hpg).cells7
      go_simp; try (with_reducible rfl)
    try simp only [Act.put, List.getElem_toArray, List.getElem_cons_succ, List.getElem_cons_zero, List.setIfInBounds_toArray, List.set_cons_zero, List.set_cons_succ]
    refine wpAnyH_take (i := 7) (v := ?_) rfl (by kernel_rfl) (by kernel_rfl) (by kernel_rfl) (fun _ _ _ h => h) (Or.inl ⟨by rfl, ?_⟩) hHeld ?_
    rotate_left
    · intro w' hSw; try dsimp only at hSw
      go_simp; try (with_reducible rfl)
    try simp only [Act.put, List.getElem_toArray, List.getElem_cons_succ, List.getElem_cons_zero, List.setIfInBounds_toArray, List.set_cons_zero, List.set_cons_succ]
    refine wpAnyH_take (i := 8) (v := ?_) rfl (by kernel_rfl) (by kernel_rfl) (by kernel_rfl) (fun _ _ _ h => h) (Or.inl ⟨by rfl, ?_⟩) hHeld ?_
    rotate_left
    · intro w' hSw; try dsimp only at hSw
      go_simp; try (with_reducible rfl)
    try simp only [Act.put, List.getElem_toArray, List.getElem_cons_succ, List.getElem_cons_zero, List.setIfInBounds_toArray, List.set_cons_zero, List.set_cons_succ]
    refine wpAnyH_take (i := 9) (v := ?_) rfl (by kernel_rfl) (by kernel_rfl) (by kernel_rfl) (fun _ _ _ h => h) (Or.inl ⟨by rfl, ?_⟩) hHeld ?_
    rotate_left
    · intro w' hSw; try dsimp only at hSw
      go_simp; try (with_reducible rfl)
    try simp only [Act.put, List.getElem_toArray, List.getElem_cons_succ, List.getElem_cons_zero, List.setIfInBounds_toArray, List.set_cons_zero, List.set_cons_succ]
    refine wpAnyH_take (i := 10) (v := ?_) rfl (by kernel_rfl) (by kernel_rfl) (by kernel_rfl) (fun _ _ _ h => h) (Or.inl ⟨by rfl, ?_⟩) hHeld ?_
    rotate_left
    · intro w' hSw; try dsimp only at hSw
      go_simp; try (with_reducible rfl)
    try simp only [Act.put, List.getElem_toArray, List.getElem_cons_succ, List.getElem_cons_zero, List.setIfInBounds_toArray, List.set_cons_zero, List.set_cons_succ]
    refine wpAnyH_take (i := 11) (v := ?_) rfl (by kernel_rfl) (by kernel_rfl) (by kernel_rfl) (fun _ _ _ h => h) (Or.inl ⟨by rfl, ?_⟩) hHeld ?_
    rotate_left
    · intro w' hSw; try dsimp only at hSw
      obtain ⟨z0, z1, z2, z3, z4, z5, z6⟩ := (hbp.below hSw hpg).cells7
      go_simp; try (with_reducible rfl)
    try simp only [Act.put, List.getElem_toArray, List.getElem_cons_succ, List.getElem_cons_zero, List.setIfInBounds_toArray, List.set_cons_zero, List.set_cons_succ]
    refine wpAnyH_take (i := 12) (v := ?_) rfl (by kernel_rfl) (by kernel_rfl) (by kernel_rfl) (fun _ _ _ h => h) (Or.inl ⟨by rfl, ?_⟩) hHeld ?_
    rotate_left
    · intro w' hSw; try dsimp only at hSw
      go_simp; try (with_reducible rfl)
    try simp only [Act.put, List.getElem_toArray, List.getElem_cons_succ, List.getElem_cons_zero, List.setIfInBounds_toArray, List.set_cons_zero, List.set_cons_succ]
    refine wpAnyH_ready (rs := [1, 13]) (by kernel_rfl) (by simp) ?_
    refine AllReadyH.cons rfl (fun K hK => ?_) ?_
    · go_simp
      refine (headW_any _).mono ?_
      rintro e y1 ⟨gw, cw1, rfl, hw1, hb1⟩
      try go_wp2_with fail
      refine hK.out _ _ (hHeld.trans (hb1.mono (Nat.le_trans hgW hHeld.size))) (fun hHeld => ?_)
      clear hK K
      try simp only [Act.put, List.getElem_toArray, List.getElem_cons_succ, List.getElem_cons_zero, List.setIfInBounds_toArray, List.set_cons_zero, List.set_cons_succ]
      refine wpAnyH_ready (rs := [13]) (by kernel_rfl) (by simp) ?_
      refine AllReadyH.cons rfl (fun K hK => ?_) AllReadyH.nil
      go_simp
      refine hK.out _ _ (hHeld.trans ((below_alloc _ _).mono (Nat.le_trans hgW hHeld.size))) (fun hHeld => ?_)
      clear hK K
      try simp only [Act.put, List.getElem_toArray, List.getElem_cons_succ, List.getElem_cons_zero, List.setIfInBounds_toArray, List.set_cons_zero, List.set_cons_succ]
      have hgy := (hg.drew.kept hb1).alloc (.cells #[.int .u64 (K0 : Int), .int .u64 (K2 : Int), .int .u64 (nr : Int), .int .u64 0, .int .u64 (K1 : Int)] 103)
      have hwy := hw1.below (below_alloc y1 (.cells #[.int .u64 (K0 : Int), .int .u64 (K2 : Int), .int .u64 (nr : Int), .int .u64 0, .int .u64 (K1 : Int)] 103))
      have hvy : In64 (y1.alloc (.cells #[.int .u64 (K0 : Int), .int .u64 (K2 : Int), .int .u64 (nr : Int), .int .u64 0, .int .u64 (K1 : Int)] 103)) (some ⟨y1.heap.size, 0, none⟩) 5 5 [K0, K2, nr, 0, K1] := in_lit64 y1 rfl rfl HL.out (by decide)
      refine wpAnyH_ready (rs := [14]) (by kernel_rfl) (by simp) ?_
      refine AllReadyH.cons rfl (fun K hK => ?_) AllReadyH.nil
      go_simp
      refine (put_any g g 256 0 16 (List.replicate 256 0) _ _ 5 _ headW _ 5 5 [K0, K2, nr, 0, K1] _ (Nat.le_refl _) hgy (by simp) (by decide) hwy hvy HH.out bytes_head (by decide) (by decide) rfl).mono ?_
      rintro e y3 ⟨rfl, hg3, hb3, hkp3⟩
      try go_wp2_with fail
      refine hK.out _ _ (hHeld.trans hb3) (fun hHeld => ?_)
      clear hK K
      try simp only [Act.put, List.getElem_toArray, List.getElem_cons_succ, List.getElem_cons_zero, List.setIfInBounds_toArray, List.set_cons_zero, List.set_cons_succ]
      refine wpAnyH_take (i := 15) (v := ?_) rfl (by kernel_rfl) (by kernel_rfl) (by kernel_rfl) (fun _ _ _ h => h) (Or.inl ⟨by rfl, ?_⟩) hHeld ?_
      rotate_left
      · intro w' hSw; try dsimp only at hSw
        go_simp; try (with_reducible rfl)
      try simp only [Act.put, List.getElem_toArray, List.getElem_cons_succ, List.getElem_cons_zero, List.setIfInBounds_toArray, List.set_cons_zero, List.set_cons_succ]
      refine wpAnyH_done (by kernel_rfl) ?_ _
      refine NoPanic.normal ?_
      go_wp2_with fail
      go_meet
      case rel => exact ⟨rfl, by rw [HB.out]; exact hg3, hHeld⟩
    refine AllReadyH.cons rfl (fun K hK => ?_) AllReadyH.nil
    go_simp
    refine hK.out _ _ (hHeld.trans ((below_alloc _ _).mono (Nat.le_trans hgW hHeld.size))) (fun hHeld => ?_)
    clear hK K
    try simp only [Act.put, List.getElem_toArray, List.getElem_cons_succ, List.getElem_cons_zero, List.setIfInBounds_toArray, List.set_cons_zero, List.set_cons_succ]
    refine wpAnyH_ready (rs := [1]) (by kernel_rfl) (by simp) ?_
    refine AllReadyH.cons rfl (fun K hK => ?_) AllReadyH.nil
    go_simp
    refine (headW_any _).mono ?_
    rintro e y1 ⟨gw, cw1, rfl, hw1, hb1⟩
    try go_wp2_with fail
    refine hK.out _ _ (hHeld.trans (hb1.mono (Nat.le_trans hgW hHeld.size))) (fun hHeld => ?_)
    clear hK K
    try simp only [Act.put, List.getElem_toArray, List.getElem_cons_succ, List.getElem_cons_zero, List.setIfInBounds_toArray, List.set_cons_zero, List.set_cons_succ]
    have hgy := (hg.alloc (.cells #[.int .u64 (K0 : Int), .int .u64 (K2 : Int), .int .u64 (nr : Int), .int .u64 0, .int .u64 (K1 : Int)] 103)).drew.kept hb1
    have hwy := hw1
    have hvy := ((in_lit64 (xs := [K0, K2, nr, 0, K1]) (n := 5) W (cs := #[.int .u64 (K0 : Int), .int .u64 (K2 : Int), .int .u64 (nr : Int), .int .u64 0, .int .u64 (K1 : Int)]) rfl rfl HL.out (by decide)).below (Below.refl _ _).drew).below hb1
    refine wpAnyH_ready (rs := [14]) (by kernel_rfl) (by simp) ?_
    refine AllReadyH.cons rfl (fun K hK => ?_) AllReadyH.nil
    go_simp
    refine (put_any g g 256 0 16 (List.replicate 256 0) _ _ 5 _ headW _ 5 5 [K0, K2, nr, 0, K1] _ (Nat.le_refl _) hgy (by simp) (by decide) hwy hvy HH.out bytes_head (by decide) (by decide) rfl).mono ?_
    rintro e y3 ⟨rfl, hg3, hb3, hkp3⟩
    try go_wp2_with fail
    refine hK.out _ _ (hHeld.trans hb3) (fun hHeld => ?_)
    clear hK K
    try simp only [Act.put, List.getElem_toArray, List.getElem_cons_succ, List.getElem_cons_zero, List.setIfInBounds_toArray, List.set_cons_zero, List.set_cons_succ]
    refine wpAnyH_take (i := 15) (v := ?_) rfl (by kernel_rfl) (by kernel_rfl) (by kernel_rfl) (fun _ _ _ h => h) (Or.inl ⟨by rfl, ?_⟩) hHeld ?_
    rotate_left
    · intro w' hSw; try dsimp only at hSw
      go_simp; try (with_reducible rfl)
    try simp only [Act.put, List.getElem_toArray, List.getElem_cons_succ, List.getElem_cons_zero, List.setIfInBounds_toArray, List.set_cons_zero, List.set_cons_succ]
    refine wpAnyH_done (by kernel_rfl) ?_ _
    refine NoPanic.normal ?_
    go_wp2_with fail
    go_meet
    case rel => exact ⟨rfl, by rw [HB.out]; exact hg3, hHeld⟩
  case rest =>
    obtain ⟨rfl, hg2, hb2⟩ := hcut
    have hbp2 := hbp.below hb2 hpg
    replace hB : Below w.heap.size w wc := hB.trans (hb2.mono (Nat.le_of_lt hpg))
    clear hg hbp hb2 hgW
    generalize headB P = X at *
    have hg := hg2
    have hbp := hbp2
    clear hg2 hbp2
    have hgW : g ≤ wc.heap.size := Nat.le_of_lt hg.lt
    obtain ⟨z0, z1, z2, z3, z4, z5, z6⟩ := hbp.cells7
    go_wp2_with fail
    clear z0 z1 z2 z3 z4 z5 z6
    generalize wc = W0 at *
    have HRL : Hid (∀ k, k ≤ nr → (recsB X P.recs k).length = 256) := fun k hk => recsB_length HBL.out (by omega) hall k (by omega)
    have HOK : Hid (∀ k, k < nr → okMR (eR P.recs k) = true) := fun k hk => by
      have hk' : k < P.recs.length := by omega
      have e : eR P.recs k = P.recs[k] := by simp [eR, hk']
      rw [e]; exact List.all_eq_true.1 hall _ (List.getElem_mem hk')
    clear hall
    go_loopw [5, 65] (fun at' i wr => ∃ k A : Nat, k ≤ nr ∧ A = 16 + 10 * k ∧ i = .int .i64 k ∧ at' = .int .i64 A ∧ Blk wr g 5 (vals (recsB X P.recs k)) ∧ Below g W0 wr) (fun _ i _ => nr - (intOf i).toNat)
    case atStart => exact ⟨0, 16, Nat.zero_le _, rfl, rfl, rfl, hg, Below.refl _ _⟩
    case round =>
      obtain ⟨k, A, hk, hA0, rfl, rfl, hgk, hbk⟩ := hrel
      have HA : Hid (A = 16 + 10 * k) := hA0
      clear hA0 hg
      have hBr : Below w.heap.size w wr := hB.trans (hbk.mono (Nat.le_of_lt hpg))
      by_cases hlt : k < nr
      · obtain ⟨gr, orr, hpr, hgr, hcr⟩ := (hP.r.below hBr).at' (by show 0 < nr; omega)
        dsimp only at hpr
        subst hpr
        obtain ⟨c0, c1, c2⟩ := hcr k hlt
        clear hcr
        have hro := HOK.out k hlt
        have hrf : 0 ≤ (eR P.recs k).kind ∧ (eR P.recs k).kind ≤ 3 ∧ 0 ≤ (eR P.recs k).block ∧ (eR P.recs k).block ≤ 255 ∧ 0 ≤ (eR P.recs k).value ∧ (eR P.recs k).value ≤ 1152921504606846976 := by
          rcases okMR_facts hro with ⟨h1, h2, h3, h4⟩ | ⟨h1, h2, h3, h4⟩ | ⟨h1, h2, h3, h4⟩
          · omega
          · rw [okWear_iff] at h4; omega
          · omega
        have hwr0 := wrap_u64 hrf.1 (by omega)
        have hwr1 := wrap_u64 hrf.2.2.1 (by omega)
        have hwr2 := wrap_u64 hrf.2.2.2.2.1 hrf.2.2.2.2.2
        have HRO : Hid (packOk recW [(eR P.recs k).kind.toNat, (eR P.recs k).block.toNat, (eR P.recs k).value.toNat] = true) := recOk hro
        have HRE : Hid (recsB X P.recs (k + 1) = splice (recsB X P.recs k) A (packL recW [(eR P.recs k).kind.toNat, (eR P.recs k).block.toNat, (eR P.recs k).value.toNat])) := by show _ = _; rw [HA.out]; rfl
        have HRV : Hid (∀ x ∈ [(eR P.recs k).kind.toNat, (eR P.recs k).block.toNat, (eR P.recs k).value.toNat], x < 18446744073709551616) := by
          intro x hx
          simp only [List.mem_cons, List.not_mem_nil, or_false] at hx
          omega
        have HXL : Hid ((recsB X P.recs k).length = 256) := HRL.out k hk
        clear hro hrf
        generalize (eR P.recs k).kind.toNat = R0 at *
        generalize (eR P.recs k).block.toNat = R1 at *
        generalize (eR P.recs k).value.toNat = R2 at *
        generalize eR P.recs k = rr at *
        obtain ⟨rk, rbk, rv⟩ := rr
        dsimp only at c0 c1 c2 hwr0 hwr1 hwr2
        generalize recsB X P.recs k = Y at *
        go_upto_region 13 with (fail)
        clear c0 c1 c2
        have hrb0 := Blk.new' wr 65 #[.int .i64 rk, .int .i64 rbk, .int .i64 rv]
        have hal := below_alloc wr (.cells #[.int .i64 rk, .int .i64 rbk, .int .i64 rv] 65)
        have hg := hgk.kept hal
        have hne : wr.heap.size ≠ g := by have := hgk.lt; omega
        have hbk2 : Below g W0 (wr.alloc (.cells #[.int .i64 rk, .int .i64 rbk, .int .i64 rv] 65)) := hbk.trans (hal.mono (Nat.le_of_lt hgk.lt))
        obtain ⟨rc, HRC⟩ : ∃ rc : List Value, Hid (rc = [.int .i64 rk, .int .i64 rbk, .int .i64 rv]) := ⟨_, rfl⟩
        have hrb : Blk (wr.alloc (.cells #[.int .i64 rk, .int .i64 rbk, .int .i64 rv] 65)) wr.heap.size 65 rc := by rw [HRC.out]; exact hrb0
        clear hrb0 hal hgk hbk
        generalize wr.heap.size = rb at *
        generalize wr.alloc (.cells #[.int .i64 rk, .int .i64 rbk, .int .i64 rv] 65) = W at *
        have hgW : g ≤ W.heap.size := Nat.le_of_lt hg.lt
        refine wp_region_noPanic ?_
        refine wp_region_held_drew (S := fun X => Below g W X ∧ Blk X rb 65 rc) (by kernel_rfl) ⟨(Below.refl _ _).drew, hrb.drew⟩ (fun hHeld => ?_)
        refine wpAnyH_take (i := 0) (v := ?_) rfl (by kernel_rfl) (by kernel_rfl) (by kernel_rfl) (fun _ _ _ h => h) (Or.inl ⟨by rfl, ?_⟩) hHeld ?_
        rotate_left
        · intro w' hSw; try dsimp only at hSw
          go_simp; try (with_reducible rfl)
        try simp only [Act.put, List.getElem_toArray, List.getElem_cons_succ, List.getElem_cons_zero, List.setIfInBounds_toArray, List.set_cons_zero, List.set_cons_succ]
        refine wpAnyH_take (i := 1) (v := ?_) rfl (by kernel_rfl) (by kernel_rfl) (by kernel_rfl) (fun _ _ _ h => h) (Or.inl ⟨by rfl, ?_⟩) hHeld ?_
        rotate_left
        · intro w' hSw; try dsimp only at hSw
          go_simp; try (with_reducible rfl)
        try simp only [Act.put, List.getElem_toArray, List.getElem_cons_succ, List.getElem_cons_zero, List.setIfInBounds_toArray, List.set_cons_zero, List.set_cons_succ]
        refine wpAnyH_take (i := 3) (v := ?_) rfl (by kernel_rfl) (by kernel_rfl) (by kernel_rfl) (fun _ _ _ h => h) (Or.inl ⟨by rfl, ?_⟩) hHeld ?_
        rotate_left
        · intro w' hSw; try dsimp only at hSw
          go_simp; try (with_reducible rfl)
        try simp only [Act.put, List.getElem_toArray, List.getElem_cons_succ, List.getElem_cons_zero, List.setIfInBounds_toArray, List.set_cons_zero, List.set_cons_succ]
        refine wpAnyH_take (i := 4) (v := ?_) rfl (by kernel_rfl) (by kernel_rfl) (by kernel_rfl) (fun _ _ _ h => h) (Or.inl ⟨by rfl, ?_⟩) hHeld ?_
        rotate_left
        · intro w' hSw; try dsimp only at hSw
          have hSr := hSw.2
          rw [HRC.out] at hSr
          have d0 := hSr.cell' (i := 0) rfl
          have d1 := hSr.cell' (i := 1) rfl
          have d2 := hSr.cell' (i := 2) rfl
          go_simp; try (with_reducible rfl)
        try simp only [Act.put, List.getElem_toArray, List.getElem_cons_succ, List.getElem_cons_zero, List.setIfInBounds_toArray, List.set_cons_zero, List.set_cons_succ]
        refine wpAnyH_take (i := 5) (v := ?_) rfl (by kernel_rfl) (by kernel_rfl) (by kernel_rfl) (fun _ _ _ h => h) (Or.inl ⟨by rfl, ?_⟩) hHeld ?_
        rotate_left
        · intro w' hSw; try dsimp only at hSw
          go_simp; try (with_reducible rfl)
        try simp only [Act.put, List.getElem_toArray, List.getElem_cons_succ, List.getElem_cons_zero, List.setIfInBounds_toArray, List.set_cons_zero, List.set_cons_succ]
        refine wpAnyH_take (i := 6) (v := ?_) rfl (by kernel_rfl) (by kernel_rfl) (by kernel_rfl) (fun _ _ _ h => h) (Or.inl ⟨by rfl, ?_⟩) hHeld ?_
        rotate_left
        · intro w' hSw; try dsimp only at hSw
          go_simp; try (with_reducible rfl)
        try simp only [Act.put, List.getElem_toArray, List.getElem_cons_succ, List.getElem_cons_zero, List.setIfInBounds_toArray, List.set_cons_zero, List.set_cons_succ]
        refine wpAnyH_take (i := 7) (v := ?_) rfl (by kernel_rfl) (by kernel_rfl) (by kernel_rfl) (fun _ _ _ h => h) (Or.inl ⟨by rfl, ?_⟩) hHeld ?_
        rotate_left
        · intro w' hSw; try dsimp only at hSw
          have hSr := hSw.2
          rw [HRC.out] at hSr
          have d0 := hSr.cell' (i := 0) rfl
          have d1 := hSr.cell' (i := 1) rfl
          have d2 := hSr.cell' (i := 2) rfl
          go_simp; try (with_reducible rfl)
        try simp only [Act.put, List.getElem_toArray, List.getElem_cons_succ, List.getElem_cons_zero, List.setIfInBounds_toArray, List.set_cons_zero, List.set_cons_succ]
        refine wpAnyH_take (i := 8) (v := ?_) rfl (by kernel_rfl) (by kernel_rfl) (by kernel_rfl) (fun _ _ _ h => h) (Or.inl ⟨by rfl, ?_⟩) hHeld ?_
        rotate_left
        · intro w' hSw; try dsimp only at hSw
          go_simp; try (with_reducible rfl)
        try simp only [Act.put, List.getElem_toArray, List.getElem_cons_succ, List.getElem_cons_zero, List.setIfInBounds_toArray, List.set_cons_zero, List.set_cons_succ]
        refine wpAnyH_take (i := 9) (v := ?_) rfl (by kernel_rfl) (by kernel_rfl) (by kernel_rfl) (fun _ _ _ h => h) (Or.inl ⟨by rfl, ?_⟩) hHeld ?_
        rotate_left
        · intro w' hSw; try dsimp only at hSw
          go_simp; try (with_reducible rfl)
        try simp only [Act.put, List.getElem_toArray, List.getElem_cons_succ, List.getElem_cons_zero, List.setIfInBounds_toArray, List.set_cons_zero, List.set_cons_succ]
        refine wpAnyH_take (i := 10) (v := ?_) rfl (by kernel_rfl) (by kernel_rfl) (by kernel_rfl) (fun _ _ _ h => h) (Or.inl ⟨by rfl, ?_⟩) hHeld ?_
        rotate_left
        · intro w' hSw; try dsimp only at hSw
          have hSr := hSw.2
          rw [HRC.out] at hSr
          have d0 := hSr.cell' (i := 0) rfl
          have d1 := hSr.cell' (i := 1) rfl
          have d2 := hSr.cell' (i := 2) rfl
          go_simp; try (with_reducible rfl)
        try simp only [Act.put, List.getElem_toArray, List.getElem_cons_succ, List.getElem_cons_zero, List.setIfInBounds_toArray, List.set_cons_zero, List.set_cons_succ]
        refine wpAnyH_take (i := 11) (v := ?_) rfl (by kernel_rfl) (by kernel_rfl) (by kernel_rfl) (fun _ _ _ h => h) (Or.inl ⟨by rfl, ?_⟩) hHeld ?_
        rotate_left
        · intro w' hSw; try dsimp only at hSw
          go_simp; try (with_reducible rfl)
        try simp only [Act.put, List.getElem_toArray, List.getElem_cons_succ, List.getElem_cons_zero, List.setIfInBounds_toArray, List.set_cons_zero, List.set_cons_succ]
        refine wpAnyH_ready (rs := [2, 12]) (by kernel_rfl) (by simp) ?_
        refine AllReadyH.cons rfl (fun K hK => ?_) ?_
        · go_simp
          refine (recW_any _).mono ?_
          rintro e y1 ⟨gw, cw1, rfl, hw1, hb1⟩
          try go_wp2_with fail
          refine hK.out _ _ ⟨hHeld.1.trans (hb1.mono (Nat.le_trans hgW hHeld.1.size)), hHeld.2.kept hb1⟩ (fun hHeld => ?_)
          clear hK K
          try simp only [Act.put, List.getElem_toArray, List.getElem_cons_succ, List.getElem_cons_zero, List.setIfInBounds_toArray, List.set_cons_zero, List.set_cons_succ]
          refine wpAnyH_ready (rs := [12]) (by kernel_rfl) (by simp) ?_
          refine AllReadyH.cons rfl (fun K hK => ?_) AllReadyH.nil
          go_simp
          refine hK.out _ _ ⟨hHeld.1.trans ((below_alloc _ _).mono (Nat.le_trans hgW hHeld.1.size)), hHeld.2.alloc _⟩ (fun hHeld => ?_)
          clear hK K
          try simp only [Act.put, List.getElem_toArray, List.getElem_cons_succ, List.getElem_cons_zero, List.setIfInBounds_toArray, List.set_cons_zero, List.set_cons_succ]
          have hgy := (hg.drew.kept hb1).alloc (.cells #[.int .u64 (R0 : Int), .int .u64 (R1 : Int), .int .u64 (R2 : Int)] 103)
          have hwy := hw1.below (below_alloc y1 (.cells #[.int .u64 (R0 : Int), .int .u64 (R1 : Int), .int .u64 (R2 : Int)] 103))
          have hvy : In64 (y1.alloc (.cells #[.int .u64 (R0 : Int), .int .u64 (R1 : Int), .int .u64 (R2 : Int)] 103)) (some ⟨y1.heap.size, 0, none⟩) 3 3 [R0, R1, R2] := in_lit64 y1 rfl rfl HRV.out (by decide)
          refine wpAnyH_ready (rs := [13]) (by kernel_rfl) (by simp) ?_
          refine AllReadyH.cons rfl (fun K hK => ?_) AllReadyH.nil
          go_simp
          refine (put_any g g 256 A 10 Y _ _ 3 _ recW _ 3 3 [R0, R1, R2] _ (Nat.le_refl _) hgy HXL.out (by decide) hwy hvy HRO.out bytes_rec (by decide) (by rw [HA.out]; omega) rfl).mono ?_
          rintro e y3 ⟨rfl, hg3, hb3, hkp3⟩
          try go_wp2_with fail
          refine hK.out _ _ ⟨hHeld.1.trans hb3, hHeld.2.same (hkp3 _ hHeld.2.lt hne)⟩ (fun hHeld => ?_)
          clear hK K
          try simp only [Act.put, List.getElem_toArray, List.getElem_cons_succ, List.getElem_cons_zero, List.setIfInBounds_toArray, List.set_cons_zero, List.set_cons_succ]
          refine wpAnyH_take (i := 14) (v := ?_) rfl (by kernel_rfl) (by kernel_rfl) (by kernel_rfl) (fun _ _ _ h => h) (Or.inl ⟨by rfl, ?_⟩) hHeld ?_
          rotate_left
          · intro w' hSw; try dsimp only at hSw
            go_simp; try (with_reducible rfl)
          try simp only [Act.put, List.getElem_toArray, List.getElem_cons_succ, List.getElem_cons_zero, List.setIfInBounds_toArray, List.set_cons_zero, List.set_cons_succ]
          refine wpAnyH_done (by kernel_rfl) ?_ _
          refine NoPanic.normal ?_
          go_wp2_with fail
          go_roundw
          case rel => exact ⟨k + 1, A + 10, by omega, by rw [HA.out]; omega, by go_num, rfl, by rw [HRE.out]; exact hg3, hbk2.trans hHeld.1⟩
          case measure => simp [intOf]; omega
        refine AllReadyH.cons rfl (fun K hK => ?_) AllReadyH.nil
        go_simp
        refine hK.out _ _ ⟨hHeld.1.trans ((below_alloc _ _).mono (Nat.le_trans hgW hHeld.1.size)), hHeld.2.alloc _⟩ (fun hHeld => ?_)
        clear hK K
        try simp only [Act.put, List.getElem_toArray, List.getElem_cons_succ, List.getElem_cons_zero, List.setIfInBounds_toArray, List.set_cons_zero, List.set_cons_succ]
        refine wpAnyH_ready (rs := [2]) (by kernel_rfl) (by simp) ?_
        refine AllReadyH.cons rfl (fun K hK => ?_) AllReadyH.nil
        go_simp
        refine (recW_any _).mono ?_
        rintro e y1 ⟨gw, cw1, rfl, hw1, hb1⟩
        try go_wp2_with fail
        refine hK.out _ _ ⟨hHeld.1.trans (hb1.mono (Nat.le_trans hgW hHeld.1.size)), hHeld.2.kept hb1⟩ (fun hHeld => ?_)
        clear hK K
        try simp only [Act.put, List.getElem_toArray, List.getElem_cons_succ, List.getElem_cons_zero, List.setIfInBounds_toArray, List.set_cons_zero, List.set_cons_succ]
        have hgy := (hg.alloc (.cells #[.int .u64 (R0 : Int), .int .u64 (R1 : Int), .int .u64 (R2 : Int)] 103)).drew.kept hb1
        have hwy := hw1
        have hvy := ((in_lit64 (xs := [R0, R1, R2]) (n := 3) W (cs := #[.int .u64 (R0 : Int), .int .u64 (R1 : Int), .int .u64 (R2 : Int)]) rfl rfl HRV.out (by decide)).below (Below.refl _ _).drew).below hb1
        refine wpAnyH_ready (rs := [13]) (by kernel_rfl) (by simp) ?_
        refine AllReadyH.cons rfl (fun K hK => ?_) AllReadyH.nil
        go_simp
        refine (put_any g g 256 A 10 Y _ _ 3 _ recW _ 3 3 [R0, R1, R2] _ (Nat.le_refl _) hgy HXL.out (by decide) hwy hvy HRO.out bytes_rec (by decide) (by rw [HA.out]; omega) rfl).mono ?_
        rintro e y3 ⟨rfl, hg3, hb3, hkp3⟩
        try go_wp2_with fail
        refine hK.out _ _ ⟨hHeld.1.trans hb3, hHeld.2.same (hkp3 _ hHeld.2.lt hne)⟩ (fun hHeld => ?_)
        clear hK K
        try simp only [Act.put, List.getElem_toArray, List.getElem_cons_succ, List.getElem_cons_zero, List.setIfInBounds_toArray, List.set_cons_zero, List.set_cons_succ]
        refine wpAnyH_take (i := 14) (v := ?_) rfl (by kernel_rfl) (by kernel_rfl) (by kernel_rfl) (fun _ _ _ h => h) (Or.inl ⟨by rfl, ?_⟩) hHeld ?_
        rotate_left
        · intro w' hSw; try dsimp only at hSw
          go_simp; try (with_reducible rfl)
        try simp only [Act.put, List.getElem_toArray, List.getElem_cons_succ, List.getElem_cons_zero, List.setIfInBounds_toArray, List.set_cons_zero, List.set_cons_succ]
        refine wpAnyH_done (by kernel_rfl) ?_ _
        refine NoPanic.normal ?_
        go_wp2_with fail
        go_roundw
        case rel => exact ⟨k + 1, A + 10, by omega, by rw [HA.out]; omega, by go_num, rfl, by rw [HRE.out]; exact hg3, hbk2.trans hHeld.1⟩
        case measure => simp [intOf]; omega
      · have hkn : k = nr := by omega
        have HQ : Hid (Blk wr g 5 (vals (recsB X P.recs nr))) := by show Blk _ _ _ _; rw [← hkn]; exact hgk
        clear hkn
        go_wp2_with fail
        go_ret
        refine ⟨g, rfl, ?_, Nat.le_of_lt hpg, hBr⟩
        rw [E.out, hlr]
        exact HQ.out
theorem write_any (V : PV) (P : MP) (w : World) (hP : InP w V P) (hok : okMP P = true) : Calls Try.prog 66 #[V.val P] w (ResY w (writeL P)) := by
  by_cases hk : P.kind = 1
  · exact write_part V P w hP hok hk
  · exact write_recs V P w hP hok hk
end Go.Proofs.Ytpikaagdiafieaa
