/-
  What the reference's Bytes makes of records, and of any page.
-/
import Derived.Test.YtpikaagdiafieaaMjC3
namespace Go.Proofs.Ytpikaagdiafieaa
open Go.RowKit
set_option linter.unusedSimpArgs false in
set_option linter.unusedVariables false in
set_option maxRecDepth 100000 in
set_option maxHeartbeats 8000000 in
theorem rbytes_recs (V : PV) (P : MP) (w : World) (hP : InP w V P) (hok : okMP P = true) (hk : ¬ P.kind = 1) :
    Calls Try.prog 35 #[V.val P] w fun e w' => ∃ p c, e = .returned (.tuple #[.slice p 256 c, .int .i64 0]) ∧ w'.ownsRow w.heap.size 5 1 (.slice p 256 c) 256 (vals (refL P)) ∧ Below w.heap.size w w' := by
  obtain ⟨i0, hi, hz0, hz1, hz2⟩ := info_parts info5
  obtain ⟨pb, nb, cb, pw, nw, cw, pr, nr, cr⟩ := V
  have hlb : P.bad.length = nb := hP.b.len
  have hlw : P.wear.length = nw := hP.v.len
  have hlr : P.recs.length = nr := hP.r.len
  have hg0 := (okMP_iff.1 hok).1
  have hpg := fun W (h : InP W ⟨pb, nb, cb, pw, nw, cw, pr, nr, cr⟩ P) => rpage_any ⟨pb, nb, cb, pw, nw, cw, pr, nr, cr⟩ P W h
  rw [hok] at hpg
  obtain ⟨hk2, hp, hs, hn, hm, hr, hall⟩ := okMP_recs hok hk
  rw [hlr] at hr
  rw [hlb] at hn
  rw [hlw] at hm
  subst hn
  subst hm
  have HBD : Hid (bodyL P = hdL P ++ recsLs P.recs) := by show _ = _; unfold bodyL; rw [if_neg hk]
  have HHD : Hid (hdL P = [P.kind.toNat, P.part.toNat, nr, 0, 0, 0, 0, 0] ++ beL 8 P.gen.toNat) := by show _ = _; unfold hdL; rw [hlb, hlr, Nat.zero_add]
  have bk1 : (P.kind == 1) = false := by simpa using hk
  have hkk : 0 ≤ P.kind ∧ P.kind ≤ 255 := by omega
  replace hp : 0 ≤ P.part ∧ P.part ≤ 3 := by omega
  have HOK : Hid (∀ k, k < nr → okMR (eR P.recs k) = true) := fun k hk => by
    have hk' : k < P.recs.length := by omega
    have e : eR P.recs k = P.recs[k] := by simp [eR, hk']
    rw [e]; exact List.all_eq_true.1 hall _ (List.getElem_mem hk')
  have hwk := wrap_u8 hkk.1 hkk.2
  have hwp : IntKind.u8.wrap P.part = ((P.part.toNat : Nat) : Int) := wrap_u8 hp.1 (by omega)
  have hwm : IntKind.u8.wrap (nr : Int) = (nr : Int) := wrap_u8n (by omega)
  have hK0 : P.kind.toNat < 256 := by omega
  have hK2 : P.part.toNat < 256 := by omega
  have hal := below_alloc w (.cells #[.int .i64 P.kind, .int .i64 P.gen, .int .i64 P.part, .int .i64 P.seq, .slice pb 0 cb, .slice pw 0 cw, .slice pr nr cr] 42)
  have hbp : Blk _ _ _ (PV.cells ⟨pb, 0, cb, pw, 0, cw, pr, nr, cr⟩ P) := Blk.new' w 42 #[.int .i64 P.kind, .int .i64 P.gen, .int .i64 P.part, .int .i64 P.seq, .slice pb 0 cb, .slice pw 0 cw, .slice pr nr cr]
  have nG := fun W => num_int P.gen 8 hg0.1 hg0.2 (by decide) (by decide) W
  have HGL : Hid ((beL 8 P.gen.toNat).length = 8) := beL_length _ _
  have HGB : Hid (∀ x ∈ beL 8 P.gen.toNat, x < 256) := beL_byte _ _
  generalize beL 8 P.gen.toNat = GB at *
  generalize P.kind.toNat = K0 at *
  generalize P.part.toNat = K2 at *
  clear hok hkk hg0 hk hk2 hall hs
  obtain ⟨z0, z1, z2, z3, z4, z5, z6⟩ := hbp.cells7
  go_enter Try.func35, Try.ntmps35
  go_upto_region 4 with (go_at_call 67; refine (hpg _ (hP.below hal)).mono ?_; rintro e W ⟨rfl, hb0⟩; replace hbp := hbp.kept hb0; obtain ⟨z0, z1, z2, z3, z4, z5, z6⟩ := hbp.cells7)
  have hB := bt hal hb0
  clear hal hb0 hpg z0 z1 z2 z3 z4 z5 z6
  have HLV : Hid (∀ x ∈ [K0, K2, nr, 0, 0, 0, 0, 0], x < 256) := by
    intro x hx
    simp only [List.mem_cons, List.not_mem_nil, or_false] at hx
    omega
  go_cut [5] from 21 (fun s5 wc => ∃ p c, s5 = .slice p 16 c ∧ wc.ownsRow W.heap.size 5 1 (.slice p 16 c) 16 (vals (hdL P)) ∧ Below W.heap.size W wc)
  case first =>
    refine wp_region_noPanic ?_
    refine wp_region_held_drew (S := Below W.heap.size W) (by kernel_rfl) (Below.refl _ _).drew (fun hHeld => ?_)
    refine wpAnyH_take (i := 0) (v := ?_) rfl (by kernel_rfl) (by kernel_rfl) (by kernel_rfl) (fun _ _ _ h => h) (Or.inl ⟨by rfl, ?_⟩) hHeld ?_
    rotate_left
    · intro w' hSw; try dsimp only at hSw
      go_simp; try (with_reducible rfl)
    try simp only [Act.put, List.getElem_toArray, List.getElem_cons_succ, List.getElem_cons_zero, List.setIfInBounds_toArray, List.set_cons_zero, List.set_cons_succ]
    refine wpAnyH_take (i := 1) (v := ?_) rfl (by kernel_rfl) (by kernel_rfl) (by kernel_rfl) (fun _ _ _ h => h) (Or.inl ⟨by rfl, ?_⟩) hHeld ?_
    rotate_left
    · intro w' hSw; try dsimp only at hSw
      obtain ⟨z0, z1, z2, z3, z4, z5, z6⟩ := (hbp.kept hSw).cells7
      go_simp; try (with_reducible rfl)
    try simp only [Act.put, List.getElem_toArray, List.getElem_cons_succ, List.getElem_cons_zero, List.setIfInBounds_toArray, List.set_cons_zero, List.set_cons_succ]
    refine wpAnyH_take (i := 2) (v := ?_) rfl (by kernel_rfl) (by kernel_rfl) (by kernel_rfl) (fun _ _ _ h => h) (Or.inl ⟨by rfl, ?_⟩) hHeld ?_
    rotate_left
    · intro w' hSw; try dsimp only at hSw
      go_simp; try (with_reducible rfl)
    try simp only [Act.put, List.getElem_toArray, List.getElem_cons_succ, List.getElem_cons_zero, List.setIfInBounds_toArray, List.set_cons_zero, List.set_cons_succ]
    refine wpAnyH_take (i := 3) (v := ?_) rfl (by kernel_rfl) (by kernel_rfl) (by kernel_rfl) (fun _ _ _ h => h) (Or.inl ⟨by rfl, ?_⟩) hHeld ?_
    rotate_left
    · intro w' hSw; try dsimp only at hSw
      go_simp; try (with_reducible rfl)
    try simp only [Act.put, List.getElem_toArray, List.getElem_cons_succ, List.getElem_cons_zero, List.setIfInBounds_toArray, List.set_cons_zero, List.set_cons_succ]
    refine wpAnyH_take (i := 4) (v := ?_) rfl (by kernel_rfl) (by kernel_rfl) (by kernel_rfl) (fun _ _ _ h => h) (Or.inl ⟨by rfl, ?_⟩) hHeld ?_
    rotate_left
    · intro w' hSw; try dsimp only at hSw
      obtain ⟨z0, z1, z2, z3, z4, z5, z6⟩ := (hbp.kept hSw).cells7
      go_simp; try (with_reducible rfl)
    try simp only [Act.put, List.getElem_toArray, List.getElem_cons_succ, List.getElem_cons_zero, List.setIfInBounds_toArray, List.set_cons_zero, List.set_cons_succ]
    refine wpAnyH_take (i := 5) (v := ?_) rfl (by kernel_rfl) (by kernel_rfl) (by kernel_rfl) (fun _ _ _ h => h) (Or.inl ⟨by rfl, ?_⟩) hHeld ?_
    rotate_left
    · intro w' hSw; try dsimp only at hSw
      go_simp; try (with_reducible rfl)
    try simp only [Act.put, List.getElem_toArray, List.getElem_cons_succ, List.getElem_cons_zero, List.setIfInBounds_toArray, List.set_cons_zero, List.set_cons_succ]
    refine wpAnyH_take (i := 6) (v := ?_) rfl (by kernel_rfl) (by kernel_rfl) (by kernel_rfl) (fun _ _ _ h => h) (Or.inl ⟨by rfl, ?_⟩) hHeld ?_
    rotate_left
    · intro w' hSw; try dsimp only at hSw
      go_simp; try (with_reducible rfl)
    try simp only [Act.put, List.getElem_toArray, List.getElem_cons_succ, List.getElem_cons_zero, List.setIfInBounds_toArray, List.set_cons_zero, List.set_cons_succ]
    refine wpAnyH_take (i := 7) (v := ?_) rfl (by kernel_rfl) (by kernel_rfl) (by kernel_rfl) (fun _ _ _ h => h) (Or.inl ⟨by rfl, ?_⟩) hHeld ?_
    rotate_left
    · intro w' hSw; try dsimp only at hSw
      go_simp; try (with_reducible rfl)
    try simp only [Act.put, List.getElem_toArray, List.getElem_cons_succ, List.getElem_cons_zero, List.setIfInBounds_toArray, List.set_cons_zero, List.set_cons_succ]
    refine wpAnyH_take (i := 9) (v := ?_) rfl (by kernel_rfl) (by kernel_rfl) (by kernel_rfl) (fun _ _ _ h => h) (Or.inl ⟨by rfl, ?_⟩) hHeld ?_
    rotate_left
    · intro w' hSw; try dsimp only at hSw
      go_simp; try (with_reducible rfl)
    try simp only [Act.put, List.getElem_toArray, List.getElem_cons_succ, List.getElem_cons_zero, List.setIfInBounds_toArray, List.set_cons_zero, List.set_cons_succ]
    refine wpAnyH_take (i := 10) (v := ?_) rfl (by kernel_rfl) (by kernel_rfl) (by kernel_rfl) (fun _ _ _ h => h) (Or.inl ⟨by rfl, ?_⟩) hHeld ?_
    rotate_left
    · intro w' hSw; try dsimp only at hSw
      obtain ⟨z0, z1, z2, z3, z4, z5, z6⟩ := (hbp.kept hSw).cells7
      go_simp; try (with_reducible rfl)
    try simp only [Act.put, List.getElem_toArray, List.getElem_cons_succ, List.getElem_cons_zero, List.setIfInBounds_toArray, List.set_cons_zero, List.set_cons_succ]
    refine wpAnyH_ready (rs := [8, 11]) (by kernel_rfl) (by simp) ?_
    refine AllReadyH.cons rfl (fun K hK => ?_) ?_
    · go_simp
      refine hK.out _ _ (bt hHeld (below_alloc _ _)) (fun hHeld => ?_)
      clear hK K
      try simp only [Act.put, List.getElem_toArray, List.getElem_cons_succ, List.getElem_cons_zero, List.setIfInBounds_toArray, List.set_cons_zero, List.set_cons_succ]
      refine wpAnyH_ready (rs := [11]) (by kernel_rfl) (by simp) ?_
      refine AllReadyH.cons rfl (fun K hK => ?_) AllReadyH.nil
      go_simp
      refine (nG _).mono ?_
      rintro e y1 ⟨gn, cn, rfl, hin1, hb1⟩
      try go_wp2_with fail
      refine hK.out _ _ (bt hHeld hb1) (fun hHeld => ?_)
      clear hK K
      try simp only [Act.put, List.getElem_toArray, List.getElem_cons_succ, List.getElem_cons_zero, List.setIfInBounds_toArray, List.set_cons_zero, List.set_cons_succ]
      have hoL := owns_below (owns_below (in_blk8 (xs := [K0, K2, nr, 0, 0, 0, 0, 0]) (n := 8) W (cs := #[.int .u8 (K0 : Int), .int .u8 (K2 : Int), .int .u8 (nr : Int), .int .u8 0, .int .u8 0, .int .u8 0, .int .u8 0, .int .u8 0]) rfl rfl (by decide)) (Below.refl _ _).drew) hb1
      have hinL := hin1
      refine wpAnyH_ready (rs := [12]) (by kernel_rfl) (by simp) ?_
      refine AllReadyH.cons rfl (fun K hK => ?_) AllReadyH.nil
      rw [if_pos (by rfl)]
      refine wp_append_bytes (.tmp 29) (.tmp 32) rfl W.heap.size _ 8 [K0, K2, nr, 0, 0, 0, 0, 0] rfl hoL _ 8 _ GB rfl hinL (by decide) hHeld.size ?_
      intro p5 c5 w5 ho5 hg5 hb5
      refine hK.out _ _ (hHeld.trans hb5) (fun hHeld => ?_)
      clear hK K
      try simp only [Act.put, List.getElem_toArray, List.getElem_cons_succ, List.getElem_cons_zero, List.setIfInBounds_toArray, List.set_cons_zero, List.set_cons_succ]
      refine wpAnyH_take (i := 13) (v := ?_) rfl (by kernel_rfl) (by kernel_rfl) (by kernel_rfl) (fun _ _ _ h => h) (Or.inl ⟨by rfl, ?_⟩) hHeld ?_
      rotate_left
      · intro w' hSw; try dsimp only at hSw
        go_simp; try (with_reducible rfl)
      try simp only [Act.put, List.getElem_toArray, List.getElem_cons_succ, List.getElem_cons_zero, List.setIfInBounds_toArray, List.set_cons_zero, List.set_cons_succ]
      refine wpAnyH_done (by kernel_rfl) ?_ _
      refine NoPanic.normal ?_
      go_wp2_with fail
      go_meet
      case rel => exact ⟨p5, c5, rfl, by rw [HHD.out]; exact ho5, hHeld⟩
    refine AllReadyH.cons rfl (fun K hK => ?_) AllReadyH.nil
    go_simp
    refine (nG _).mono ?_
    rintro e y1 ⟨gn, cn, rfl, hin1, hb1⟩
    try go_wp2_with fail
    refine hK.out _ _ (bt hHeld hb1) (fun hHeld => ?_)
    clear hK K
    try simp only [Act.put, List.getElem_toArray, List.getElem_cons_succ, List.getElem_cons_zero, List.setIfInBounds_toArray, List.set_cons_zero, List.set_cons_succ]
    refine wpAnyH_ready (rs := [8]) (by kernel_rfl) (by simp) ?_
    refine AllReadyH.cons rfl (fun K hK => ?_) AllReadyH.nil
    go_simp
    refine hK.out _ _ (bt hHeld (below_alloc _ _)) (fun hHeld => ?_)
    clear hK K
    try simp only [Act.put, List.getElem_toArray, List.getElem_cons_succ, List.getElem_cons_zero, List.setIfInBounds_toArray, List.set_cons_zero, List.set_cons_succ]
    have hoL := in_blk8 (xs := [K0, K2, nr, 0, 0, 0, 0, 0]) (n := 8) y1 (cs := #[.int .u8 (K0 : Int), .int .u8 (K2 : Int), .int .u8 (nr : Int), .int .u8 0, .int .u8 0, .int .u8 0, .int .u8 0, .int .u8 0]) rfl rfl (by decide)
    have hinL := hin1.below (below_alloc y1 (.cells #[.int .u8 (K0 : Int), .int .u8 (K2 : Int), .int .u8 (nr : Int), .int .u8 0, .int .u8 0, .int .u8 0, .int .u8 0, .int .u8 0] 5))
    replace hoL := owns_mono hoL (show W.heap.size ≤ y1.heap.size from hb1.size)
    refine wpAnyH_ready (rs := [12]) (by kernel_rfl) (by simp) ?_
    refine AllReadyH.cons rfl (fun K hK => ?_) AllReadyH.nil
    rw [if_pos (by rfl)]
    refine wp_append_bytes (.tmp 29) (.tmp 32) rfl W.heap.size _ 8 [K0, K2, nr, 0, 0, 0, 0, 0] rfl hoL _ 8 _ GB rfl hinL (by decide) hHeld.size ?_
    intro p5 c5 w5 ho5 hg5 hb5
    refine hK.out _ _ (hHeld.trans hb5) (fun hHeld => ?_)
    clear hK K
    try simp only [Act.put, List.getElem_toArray, List.getElem_cons_succ, List.getElem_cons_zero, List.setIfInBounds_toArray, List.set_cons_zero, List.set_cons_succ]
    refine wpAnyH_take (i := 13) (v := ?_) rfl (by kernel_rfl) (by kernel_rfl) (by kernel_rfl) (fun _ _ _ h => h) (Or.inl ⟨by rfl, ?_⟩) hHeld ?_
    rotate_left
    · intro w' hSw; try dsimp only at hSw
      go_simp; try (with_reducible rfl)
    try simp only [Act.put, List.getElem_toArray, List.getElem_cons_succ, List.getElem_cons_zero, List.setIfInBounds_toArray, List.set_cons_zero, List.set_cons_succ]
    refine wpAnyH_done (by kernel_rfl) ?_ _
    refine NoPanic.normal ?_
    go_wp2_with fail
    go_meet
    case rel => exact ⟨p5, c5, rfl, by rw [HHD.out]; exact ho5, hHeld⟩
  case rest =>
    obtain ⟨p4, c4, rfl, ho4, hb4⟩ := hcut
    have hbp2 := hbp.kept hb4
    replace hB : Below w.heap.size w wc := bt hB hb4
    have hWw : w.heap.size < W.heap.size := hbp.lt
    have hsz := hb4.size
    clear hbp hb4
    have hbp := hbp2
    clear hbp2
    have HXL : Hid ((hdL P).length = 16) := hdL_length P
    generalize hdL P = X0 at *
    have HO4 : Hid (wc.ownsRow W.heap.size 5 1 (.slice p4 16 c4) 16 (vals X0)) := ho4
    clear ho4
    obtain ⟨z0, z1, z2, z3, z4, z5, z6⟩ := hbp.cells7
    go_wp2_with fail
    go_loopw [5, 8] (fun bv i wr' => bv = .slice p4 16 c4 ∧ i = .int .i64 0 ∧ wr' = wc) (fun _ _ _ => 0)
    case atStart => exact ⟨rfl, rfl, rfl⟩
    case round =>
      obtain ⟨rfl, rfl, rfl⟩ := hrel
      go_wp2_with fail
      clear z0 z1 z2 z3 z4 z5 z6
      go_loopw [5, 9] (fun bv i wr => ∃ (k A : Nat) (pv : Option Addr) (cv : Nat), k ≤ nr ∧ A = 16 + 10 * k ∧ i = .int .i64 k ∧ bv = .slice pv A cv ∧ wr.ownsRow W.heap.size 5 1 (.slice pv A cv) A (vals (X0 ++ recsLs (P.recs.take k))) ∧ Blk wr w.heap.size 42 (PV.cells ⟨pb, 0, cb, pw, 0, cw, pr, nr, cr⟩ P) ∧ Below w.heap.size w wr ∧ W.heap.size ≤ wr.heap.size) (fun _ i _ => nr - (intOf i).toNat)
      case atStart => exact ⟨0, 16, p4, c4, Nat.zero_le _, rfl, rfl, rfl, by simpa [recsLs] using HO4.out, hbp, hB, hsz⟩
      case round =>
        obtain ⟨k, A, pv, cv, hk, hA0, rfl, rfl, hoA, hbpr, hBr, hsr⟩ := hrel
        have HA : Hid (A = 16 + 10 * k) := hA0
        clear hA0 HO4 hbp hB hsz
        obtain ⟨z0, z1, z2, z3, z4, z5, z6⟩ := hbpr.cells7
        by_cases hlt : k < nr
        · obtain ⟨gr, orr, hpr, hgr, hcr⟩ := (hP.r.below hBr).at' (by show 0 < nr; omega)
          dsimp only at hpr
          subst hpr
          obtain ⟨c0, c1, c2⟩ := hcr k hlt
          clear hcr
          have hro := HOK.out k hlt
          have hrf : 0 ≤ (eR P.recs k).kind ∧ (eR P.recs k).kind ≤ 3 ∧ 0 ≤ (eR P.recs k).block ∧ (eR P.recs k).block ≤ 255 ∧ 0 ≤ (eR P.recs k).value ∧ (eR P.recs k).value ≤ 1152921504606846976 := by
            rcases okMR_facts hro with ⟨h1, h2, h3, h4⟩ | ⟨h1, h2, h3, h4⟩ | ⟨h1, h2, h3, h4⟩
            · omega
            · rw [okWear_iff] at h4; omega
            · omega
          have hwr0 := wrap_u8 hrf.1 (by omega)
          have hwr1 := wrap_u8 hrf.2.2.1 (by omega)
          have nV := fun X => num_int (eR P.recs k).value 8 hrf.2.2.2.2.1 hrf.2.2.2.2.2 (by decide) (by decide) X
          have HSN : Hid (recsLs (P.recs.take (k + 1)) = recsLs (P.recs.take k) ++ ([(eR P.recs k).kind.toNat, (eR P.recs k).block.toNat] ++ beL 8 (eR P.recs k).value.toNat)) := recsLs_snoc _ _ (by omega)
          have HR01 : Hid (∀ x ∈ [(eR P.recs k).kind.toNat, (eR P.recs k).block.toNat], x < 256) := by
            intro x hx
            simp only [List.mem_cons, List.not_mem_nil, or_false] at hx
            omega
          have HAL : Hid (A ≤ 1000) := by show _ ≤ _; rw [HA.out]; omega
          clear hro hrf
          generalize (eR P.recs k).kind.toNat = R0 at *
          generalize (eR P.recs k).block.toNat = R1 at *
          generalize beL 8 (eR P.recs k).value.toNat = VB at *
          generalize eR P.recs k = rr at *
          obtain ⟨rk, rbk, rv⟩ := rr
          dsimp only at c0 c1 c2 hwr0 hwr1 nV
          generalize recsLs (P.recs.take k) = RK at *
          go_upto_region 22 with (fail)
          clear c0 c1 c2 z0 z1 z2 z3 z4 z5 z6
          have hrb0 := Blk.new' wr 65 #[.int .i64 rk, .int .i64 rbk, .int .i64 rv]
          have hal := below_alloc wr (.cells #[.int .i64 rk, .int .i64 rbk, .int .i64 rv] 65)
          replace hbpr := hbpr.kept hal
          replace hBr := bt hBr hal
          replace hoA := owns_below hoA hal
          replace hsr := Nat.le_trans hsr hal.size
          obtain ⟨rc, HRC⟩ : ∃ rc : List Value, Hid (rc = [.int .i64 rk, .int .i64 rbk, .int .i64 rv]) := ⟨_, rfl⟩
          have hrb : Blk (wr.alloc (.cells #[.int .i64 rk, .int .i64 rbk, .int .i64 rv] 65)) wr.heap.size 65 rc := by rw [HRC.out]; exact hrb0
          clear hrb0 hal
          generalize wr.heap.size = rb at *
          generalize wr.alloc (.cells #[.int .i64 rk, .int .i64 rbk, .int .i64 rv] 65) = Y at *
          refine wp_region_noPanic ?_
          refine wp_region_held_drew (S := fun X => Blk X rb 65 rc) (by kernel_rfl) hrb.drew (fun hHeld => ?_)
          refine wpAnyH_take (i := 0) (v := ?_) rfl (by kernel_rfl) (by kernel_rfl) (by kernel_rfl) (fun _ _ _ h => h) (Or.inl ⟨by rfl, ?_⟩) hHeld ?_
          rotate_left
          · intro w' hSw; try dsimp only at hSw
            go_simp; try (with_reducible rfl)
          try simp only [Act.put, List.getElem_toArray, List.getElem_cons_succ, List.getElem_cons_zero, List.setIfInBounds_toArray, List.set_cons_zero, List.set_cons_succ]
          refine wpAnyH_take (i := 1) (v := ?_) rfl (by kernel_rfl) (by kernel_rfl) (by kernel_rfl) (fun _ _ _ h => h) (Or.inl ⟨by rfl, ?_⟩) hHeld ?_
          rotate_left
          · intro w' hSw; try dsimp only at hSw
            go_simp; try (with_reducible rfl)
          try simp only [Act.put, List.getElem_toArray, List.getElem_cons_succ, List.getElem_cons_zero, List.setIfInBounds_toArray, List.set_cons_zero, List.set_cons_succ]
          refine wpAnyH_take (i := 2) (v := ?_) rfl (by kernel_rfl) (by kernel_rfl) (by kernel_rfl) (fun _ _ _ h => h) (Or.inl ⟨by rfl, ?_⟩) hHeld ?_
          rotate_left
          · intro w' hSw; try dsimp only at hSw
            have hSr := hSw
            rw [HRC.out] at hSr
            have d0 := hSr.cell' (i := 0) rfl
            have d1 := hSr.cell' (i := 1) rfl
            have d2 := hSr.cell' (i := 2) rfl
            go_simp; try (with_reducible rfl)
          try simp only [Act.put, List.getElem_toArray, List.getElem_cons_succ, List.getElem_cons_zero, List.setIfInBounds_toArray, List.set_cons_zero, List.set_cons_succ]
          refine wpAnyH_take (i := 3) (v := ?_) rfl (by kernel_rfl) (by kernel_rfl) (by kernel_rfl) (fun _ _ _ h => h) (Or.inl ⟨by rfl, ?_⟩) hHeld ?_
          rotate_left
          · intro w' hSw; try dsimp only at hSw
            go_simp; try (with_reducible rfl)
          try simp only [Act.put, List.getElem_toArray, List.getElem_cons_succ, List.getElem_cons_zero, List.setIfInBounds_toArray, List.set_cons_zero, List.set_cons_succ]
          refine wpAnyH_take (i := 4) (v := ?_) rfl (by kernel_rfl) (by kernel_rfl) (by kernel_rfl) (fun _ _ _ h => h) (Or.inl ⟨by rfl, ?_⟩) hHeld ?_
          rotate_left
          · intro w' hSw; try dsimp only at hSw
            go_simp; try (with_reducible rfl)
          try simp only [Act.put, List.getElem_toArray, List.getElem_cons_succ, List.getElem_cons_zero, List.setIfInBounds_toArray, List.set_cons_zero, List.set_cons_succ]
          refine wpAnyH_take (i := 5) (v := ?_) rfl (by kernel_rfl) (by kernel_rfl) (by kernel_rfl) (fun _ _ _ h => h) (Or.inl ⟨by rfl, ?_⟩) hHeld ?_
          rotate_left
          · intro w' hSw; try dsimp only at hSw
            have hSr := hSw
            rw [HRC.out] at hSr
            have d0 := hSr.cell' (i := 0) rfl
            have d1 := hSr.cell' (i := 1) rfl
            have d2 := hSr.cell' (i := 2) rfl
            go_simp; try (with_reducible rfl)
          try simp only [Act.put, List.getElem_toArray, List.getElem_cons_succ, List.getElem_cons_zero, List.setIfInBounds_toArray, List.set_cons_zero, List.set_cons_succ]
          refine wpAnyH_take (i := 6) (v := ?_) rfl (by kernel_rfl) (by kernel_rfl) (by kernel_rfl) (fun _ _ _ h => h) (Or.inl ⟨by rfl, ?_⟩) hHeld ?_
          rotate_left
          · intro w' hSw; try dsimp only at hSw
            go_simp; try (with_reducible rfl)
          try simp only [Act.put, List.getElem_toArray, List.getElem_cons_succ, List.getElem_cons_zero, List.setIfInBounds_toArray, List.set_cons_zero, List.set_cons_succ]
          refine wpAnyH_take (i := 9) (v := ?_) rfl (by kernel_rfl) (by kernel_rfl) (by kernel_rfl) (fun _ _ _ h => h) (Or.inl ⟨by rfl, ?_⟩) hHeld ?_
          rotate_left
          · intro w' hSw; try dsimp only at hSw
            go_simp; try (with_reducible rfl)
          try simp only [Act.put, List.getElem_toArray, List.getElem_cons_succ, List.getElem_cons_zero, List.setIfInBounds_toArray, List.set_cons_zero, List.set_cons_succ]
          refine wpAnyH_take (i := 10) (v := ?_) rfl (by kernel_rfl) (by kernel_rfl) (by kernel_rfl) (fun _ _ _ h => h) (Or.inl ⟨by rfl, ?_⟩) hHeld ?_
          rotate_left
          · intro w' hSw; try dsimp only at hSw
            have hSr := hSw
            rw [HRC.out] at hSr
            have d0 := hSr.cell' (i := 0) rfl
            have d1 := hSr.cell' (i := 1) rfl
            have d2 := hSr.cell' (i := 2) rfl
            go_simp; try (with_reducible rfl)
          try simp only [Act.put, List.getElem_toArray, List.getElem_cons_succ, List.getElem_cons_zero, List.setIfInBounds_toArray, List.set_cons_zero, List.set_cons_succ]
          refine wpAnyH_ready (rs := [7]) (by kernel_rfl) (by simp) ?_
          refine AllReadyH.cons rfl (fun K hK => ?_) AllReadyH.nil
          go_simp
          refine hK.out _ _ (Blk.drew (hrb.alloc _)) (fun hHeld => ?_)
          clear hK K
          try simp only [Act.put, List.getElem_toArray, List.getElem_cons_succ, List.getElem_cons_zero, List.setIfInBounds_toArray, List.set_cons_zero, List.set_cons_succ]
          have hal2 := (below_alloc Y (.cells #[.int .u8 (R0 : Int), .int .u8 (R1 : Int)] 5)).drew
          have hoL := owns_below hoA hal2
          have hinL := (in_lit (xs := [R0, R1]) (n := 2) Y (cs := #[.int .u8 (R0 : Int), .int .u8 (R1 : Int)]) rfl rfl HR01.out (by decide)).below (Below.refl _ _).drew
          have hbp7 := hbpr.kept hal2
          have hB7 := bt hBr hal2
          have hs7 := Nat.le_trans hsr hal2.size
          refine wpAnyH_ready (rs := [8]) (by kernel_rfl) (by simp) ?_
          refine AllReadyH.cons rfl (fun K hK => ?_) AllReadyH.nil
          rw [if_pos (by rfl)]
          refine wp_append_bytes (.tmp 96) (.tmp 103) rfl W.heap.size _ A (X0 ++ RK) rfl hoL _ 2 _ [R0, R1] rfl hinL (by have := HAL.out; omega) hs7 ?_
          intro p5 c5 w5 ho5 hg5 hb5
          refine hK.out _ _ (hHeld.grown8 hoL (by decide) hg5) (fun hHeld => ?_)
          clear hK K
          try simp only [Act.put, List.getElem_toArray, List.getElem_cons_succ, List.getElem_cons_zero, List.setIfInBounds_toArray, List.set_cons_zero, List.set_cons_succ]
          have hbp8 := hbp7.grown8 hoL (by decide) hg5
          have hB8 : Below w.heap.size w w5 := hB7.trans (hb5.mono (Nat.le_of_lt hWw))
          have hs8 := Nat.le_trans hs7 hb5.size
          refine wpAnyH_ready (rs := [11]) (by kernel_rfl) (by simp) ?_
          refine AllReadyH.cons rfl (fun K hK => ?_) AllReadyH.nil
          go_simp
          refine (nV _).mono ?_
          rintro e y1 ⟨gn, cn, rfl, hin1, hb1⟩
          try go_wp2_with fail
          refine hK.out _ _ (hHeld.kept hb1) (fun hHeld => ?_)
          clear hK K
          try simp only [Act.put, List.getElem_toArray, List.getElem_cons_succ, List.getElem_cons_zero, List.setIfInBounds_toArray, List.set_cons_zero, List.set_cons_succ]
          have hoM := owns_below ho5 hb1
          have hbp9 := hbp8.kept hb1
          have hB9 := bt hB8 hb1
          have hs9 := Nat.le_trans hs8 hb1.size
          refine wpAnyH_ready (rs := [12]) (by kernel_rfl) (by simp) ?_
          refine AllReadyH.cons rfl (fun K hK => ?_) AllReadyH.nil
          rw [if_pos (by rfl)]
          refine wp_append_bytes (.tmp 104) (.tmp 107) rfl W.heap.size _ (A + 2) ((X0 ++ RK) ++ [R0, R1]) rfl hoM _ 8 _ VB rfl hin1 (by have := HAL.out; omega) hs9 ?_
          intro p6 c6 w6 ho6 hg6 hb6
          refine hK.out _ _ (hHeld.grown8 hoM (by decide) hg6) (fun hHeld => ?_)
          clear hK K
          try simp only [Act.put, List.getElem_toArray, List.getElem_cons_succ, List.getElem_cons_zero, List.setIfInBounds_toArray, List.set_cons_zero, List.set_cons_succ]
          refine wpAnyH_take (i := 13) (v := ?_) rfl (by kernel_rfl) (by kernel_rfl) (by kernel_rfl) (fun _ _ _ h => h) (Or.inl ⟨by rfl, ?_⟩) hHeld ?_
          rotate_left
          · intro w' hSw; try dsimp only at hSw
            go_simp; try (with_reducible rfl)
          try simp only [Act.put, List.getElem_toArray, List.getElem_cons_succ, List.getElem_cons_zero, List.setIfInBounds_toArray, List.set_cons_zero, List.set_cons_succ]
          refine wpAnyH_done (by kernel_rfl) ?_ _
          refine NoPanic.normal ?_
          have hbpX := hbp9.grown8 hoM (by decide) hg6
          have hBX : Below w.heap.size w w6 := hB9.trans (hb6.mono (Nat.le_of_lt hWw))
          have hsX := Nat.le_trans hs9 hb6.size
          go_wp2_with fail
          go_roundw
          case rel => exact ⟨k + 1, A + 2 + 8, p6, c6, by omega, by rw [HA.out]; omega, by go_num, rfl, by rw [HSN.out, ← List.append_assoc, ← List.append_assoc]; exact ho6, hbpX, hBX, hsX⟩
          case measure => simp [intOf]; omega
        · have hkn : k = nr := by omega
          have HTK : Hid (P.recs.take k = P.recs) := List.take_of_length_le (by rw [hlr]; omega)
          rw [HTK.out] at hoA
          rw [← HBD.out] at hoA
          have HN0 : Hid ((bodyL P).length = A ∧ A ≤ 256) := by
            show _ ∧ _
            refine ⟨?_, by rw [HA.out]; omega⟩
            rw [HBD.out, List.length_append, HXL.out, recsLs_length, hlr, HA.out, hkn]
          obtain ⟨N0, HNA⟩ : ∃ N0 : Nat, Hid (N0 = A) := ⟨_, rfl⟩
          rw [← HNA.out] at HN0
          clear hkn hk HTK
          obtain ⟨BD, HBD2⟩ : ∃ BD, Hid (bodyL P = BD) := ⟨_, rfl⟩
          rw [HBD2.out] at hoA HN0
          go_wp2_with fail
          have hoF := hoA
          have hBF := hBr
          have hsF := hsr
          clear hoA hBr hsr hbpr z0 z1 z2 z3 z4 z5 z6
          have hAN : N0 = A := HNA.out
          subst hAN
          go_loopw [5] (fun bv wr => ∃ (A : Nat) (pv : Option Addr) (cv : Nat), N0 ≤ A ∧ A ≤ 256 ∧ bv = .slice pv A cv ∧ wr.ownsRow W.heap.size 5 1 (.slice pv A cv) A (vals (BD ++ List.replicate (A - N0) 0)) ∧ Below w.heap.size w wr ∧ W.heap.size ≤ wr.heap.size) (fun bv _ => 256 - lenOf8 bv)
          case atStart => exact ⟨N0, _, _, Nat.le_refl _, HN0.out.2, rfl, by rw [Nat.sub_self]; simpa using hoF, hBF, hsF⟩
          case round =>
            obtain ⟨A, pv, cv, hA1, hA2, rfl, hoA, hBA, hsA⟩ := hrel
            clear hoF hBF hsF
            by_cases hlt : A < 256
            · have hai : (A : Int) < 256 := by omega
              have hal := below_alloc wr (.cells #[.int .u8 0] 5)
              have hlit : In (wr.alloc (.cells #[.int .u8 0] 5)) (some ⟨wr.heap.size, 0, none⟩) 1 1 [0] := in_lit wr rfl rfl (by simp) (by decide)
              have HOA : Hid ((wr.alloc (.cells #[.int .u8 0] 5)).ownsRow W.heap.size 5 1 (.slice pv A cv) A (vals (BD ++ List.replicate (A - N0) 0))) := owns_below hoA hal
              have HSA : Hid (W.heap.size ≤ (wr.alloc (.cells #[.int .u8 0] 5)).heap.size) := Nat.le_trans hsA hal.size
              have hBA2 := bt hBA hal
              have HRE : Hid ((BD ++ List.replicate (A - N0) 0) ++ [0] = BD ++ List.replicate (A + 1 - N0) 0) := by show _ = _; rw [List.append_assoc, show A + 1 - N0 = (A - N0) + 1 by omega, List.replicate_succ']
              clear hoA hsA hal
              go_wp2_with (at_builtin; refine wpList_append_bytes rfl (.tmp 112) (.tmp 113) rfl W.heap.size _ A _ rfl HOA.out _ 1 _ [0] rfl hlit (by omega) HSA.out ?_; intro p9 c9 w9 ho9 hg9 hb9)
              go_roundw
              case rel => exact ⟨A + 1, p9, c9, by omega, by omega, rfl, by rw [← HRE.out]; exact ho9, hBA2.trans (hb9.mono (Nat.le_of_lt hWw)), Nat.le_trans HSA.out hb9.size⟩
              case measure => simp [lenOf8]; omega
            · have hA : A = 256 := by omega
              subst hA
              go_wp2
              go_ret2
              refine ⟨pv, cv, rfl, ?_, hBA⟩
              have hfin : refL P = BD ++ List.replicate (256 - N0) 0 := by unfold refL; rw [HBD2.out, HN0.out.1]
              rw [hfin]
              exact owns_mono hoA (Nat.le_of_lt hWw)
end Go.Proofs.Ytpikaagdiafieaa
