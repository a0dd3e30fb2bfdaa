/-
  What the reference's Bytes makes of a part.
-/
import Derived.Test.YtpikaagdiafieaaMjC2
namespace Go.Proofs.Ytpikaagdiafieaa
open Go.RowKit
set_option linter.unusedSimpArgs false in
set_option linter.unusedVariables false in
set_option maxRecDepth 100000 in
set_option maxHeartbeats 8000000 in
theorem rbytes_part (V : PV) (P : MP) (w : World) (hP : InP w V P) (hok : okMP P = true) (hk : P.kind = 1) :
    Calls Try.prog 35 #[V.val P] w fun e w' => ∃ p c, e = .returned (.tuple #[.slice p 256 c, .int .i64 0]) ∧ w'.ownsRow w.heap.size 5 1 (.slice p 256 c) 256 (vals (refL P)) ∧ Below w.heap.size w w' := by
  obtain ⟨i0, hi, hz0, hz1, hz2⟩ := info_parts info5
  obtain ⟨pb, nb, cb, pw, nw, cw, pr, nr, cr⟩ := V
  have hlb : P.bad.length = nb := hP.b.len
  have hlw : P.wear.length = nw := hP.v.len
  have hlr : P.recs.length = nr := hP.r.len
  have hg0 := (okMP_iff.1 hok).1
  have hpg := fun W (h : InP W ⟨pb, nb, cb, pw, nw, cw, pr, nr, cr⟩ P) => rpage_any ⟨pb, nb, cb, pw, nw, cw, pr, nr, cr⟩ P W h
  rw [hok] at hpg
  obtain ⟨hp, hs, hn, hm, hww, hr⟩ := okMP_part hok hk
  rw [hlb] at hn hm
  rw [hlr] at hr
  rw [hlw] at hm
  subst hr
  subst hm
  have HBD : Hid (bodyL P = (hdL P ++ beL 8 P.seq.toNat ++ bitsTo P.bad nw) ++ wearsL P.wear) := by show _ = _; unfold bodyL; rw [if_pos hk, hlb]
  have HHD : Hid (hdL P = [P.kind.toNat, P.part.toNat, nw, 0, 0, 0, 0, 0] ++ beL 8 P.gen.toNat) := by show _ = _; unfold hdL; rw [hlb, hlr, Nat.add_zero]
  have bk1 : (P.kind == 1) = true := by simpa using hk
  have HW : Hid (∀ j, j < nw → 0 ≤ eI P.wear j ∧ eI P.wear j ≤ 16777215) := fun j hj => okWear_iff.1 (eI_all.1 hww j (by omega))
  have hkk : 0 ≤ P.kind ∧ P.kind ≤ 255 := by omega
  have hwk := wrap_u8 hkk.1 hkk.2
  have hwp : IntKind.u8.wrap P.part = ((P.part.toNat : Nat) : Int) := wrap_u8 hp.1 (by omega)
  have hwm : IntKind.u8.wrap (nw : Int) = (nw : Int) := wrap_u8n (by omega)
  have hK0 : P.kind.toNat < 256 := by omega
  have hK2 : P.part.toNat < 256 := by omega
  have hal := below_alloc w (.cells #[.int .i64 P.kind, .int .i64 P.gen, .int .i64 P.part, .int .i64 P.seq, .slice pb nw cb, .slice pw nw cw, .slice pr 0 cr] 42)
  have hbp : Blk _ _ _ (PV.cells ⟨pb, nw, cb, pw, nw, cw, pr, 0, cr⟩ P) := Blk.new' w 42 #[.int .i64 P.kind, .int .i64 P.gen, .int .i64 P.part, .int .i64 P.seq, .slice pb nw cb, .slice pw nw cw, .slice pr 0 cr]
  have nG := fun W => num_int P.gen 8 hg0.1 hg0.2 (by decide) (by decide) W
  have HGL : Hid ((beL 8 P.gen.toNat).length = 8) := beL_length _ _
  have HGB : Hid (∀ x ∈ beL 8 P.gen.toNat, x < 256) := beL_byte _ _
  have nS := fun W => num_int P.seq 8 hs.1 hs.2 (by decide) (by decide) W
  have HSL : Hid ((beL 8 P.seq.toNat).length = 8) := beL_length _ _
  generalize beL 8 P.seq.toNat = SB at *
  generalize beL 8 P.gen.toNat = GB at *
  generalize P.kind.toNat = K0 at *
  generalize P.part.toNat = K2 at *
  clear hok hkk hg0 hk hww
  obtain ⟨z0, z1, z2, z3, z4, z5, z6⟩ := hbp.cells7
  go_enter Try.func35, Try.ntmps35
  go_upto_region 4 with (go_at_call 67; refine (hpg _ (hP.below hal)).mono ?_; rintro e W ⟨rfl, hb0⟩; replace hbp := hbp.kept hb0; obtain ⟨z0, z1, z2, z3, z4, z5, z6⟩ := hbp.cells7)
  have hB := bt hal hb0
  clear hal hb0 hpg z0 z1 z2 z3 z4 z5 z6
  have HLV : Hid (∀ x ∈ [K0, K2, nw, 0, 0, 0, 0, 0], x < 256) := by
    intro x hx
    simp only [List.mem_cons, List.not_mem_nil, or_false] at hx
    omega
  go_cut [5] from 21 (fun s5 wc => ∃ p c, s5 = .slice p 16 c ∧ wc.ownsRow W.heap.size 5 1 (.slice p 16 c) 16 (vals (hdL P)) ∧ Below W.heap.size W wc)
  case first =>
    refine wp_region_noPanic ?_
    refine wp_region_held_drew (S := Below W.heap.size W) (by kernel_rfl) (Below.refl _ _).drew (fun hHeld => ?_)
    refine wpAnyH_take (i := 0) (v := ?_) rfl (by kernel_rfl) (by kernel_rfl) (by kernel_rfl) (fun _ _ _ h => h) (Or.inl ⟨by rfl, ?_⟩) hHeld ?_
    rotate_left
    · intro w' hSw; try dsimp only at hSw
      go_simp; try (with_reducible rfl)
    try simp only [Act.put, List.getElem_toArray, List.getElem_cons_succ, List.getElem_cons_zero, List.setIfInBounds_toArray, List.set_cons_zero, List.set_cons_succ]
    refine wpAnyH_take (i := 1) (v := ?_) rfl (by kernel_rfl) (by kernel_rfl) (by kernel_rfl) (fun _ _ _ h => h) (Or.inl ⟨by rfl, ?_⟩) hHeld ?_
    rotate_left
    · intro w' hSw; try dsimp only at hSw
      obtain ⟨z0, z1, z2, z3, z4, z5, z6⟩ := (hbp.kept hSw).cells7
      go_simp; try (with_reducible rfl)
    try simp only [Act.put, List.getElem_toArray, List.getElem_cons_succ, List.getElem_cons_zero, List.setIfInBounds_toArray, List.set_cons_zero, List.set_cons_succ]
    refine wpAnyH_take (i := 2) (v := ?_) rfl (by kernel_rfl) (by kernel_rfl) (by kernel_rfl) (fun _ _ _ h => h) (Or.inl ⟨by rfl, ?_⟩) hHeld ?_
    rotate_left
    · intro w' hSw; try dsimp only at hSw
      go_simp; try (with_reducible rfl)
    try simp only [Act.put, List.getElem_toArray, List.getElem_cons_succ, List.getElem_cons_zero, List.setIfInBounds_toArray, List.set_cons_zero, List.set_cons_succ]
    refine wpAnyH_take (i := 3) (v := ?_) rfl (by kernel_rfl) (by kernel_rfl) (by kernel_rfl) (fun _ _ _ h => h) (Or.inl ⟨by rfl, ?_⟩) hHeld ?_
    rotate_left
    · intro w' hSw; try dsimp only at hSw
      go_simp; try (with_reducible rfl)
    try simp only [Act.put, List.getElem_toArray, List.getElem_cons_succ, List.getElem_cons_zero, List.setIfInBounds_toArray, List.set_cons_zero, List.set_cons_succ]
    refine wpAnyH_take (i := 4) (v := ?_) rfl (by kernel_rfl) (by kernel_rfl) (by kernel_rfl) (fun _ _ _ h => h) (Or.inl ⟨by rfl, ?_⟩) hHeld ?_
    rotate_left
    · intro w' hSw; try dsimp only at hSw
      obtain ⟨z0, z1, z2, z3, z4, z5, z6⟩ := (hbp.kept hSw).cells7
      go_simp; try (with_reducible rfl)
    try simp only [Act.put, List.getElem_toArray, List.getElem_cons_succ, List.getElem_cons_zero, List.setIfInBounds_toArray, List.set_cons_zero, List.set_cons_succ]
    refine wpAnyH_take (i := 5) (v := ?_) rfl (by kernel_rfl) (by kernel_rfl) (by kernel_rfl) (fun _ _ _ h => h) (Or.inl ⟨by rfl, ?_⟩) hHeld ?_
    rotate_left
    · intro w' hSw; try dsimp only at hSw
      go_simp; try (with_reducible rfl)
    try simp only [Act.put, List.getElem_toArray, List.getElem_cons_succ, List.getElem_cons_zero, List.setIfInBounds_toArray, List.set_cons_zero, List.set_cons_succ]
    refine wpAnyH_take (i := 6) (v := ?_) rfl (by kernel_rfl) (by kernel_rfl) (by kernel_rfl) (fun _ _ _ h => h) (Or.inl ⟨by rfl, ?_⟩) hHeld ?_
    rotate_left
    · intro w' hSw; try dsimp only at hSw
      go_simp; try (with_reducible rfl)
    try simp only [Act.put, List.getElem_toArray, List.getElem_cons_succ, List.getElem_cons_zero, List.setIfInBounds_toArray, List.set_cons_zero, List.set_cons_succ]
    refine wpAnyH_take (i := 7) (v := ?_) rfl (by kernel_rfl) (by kernel_rfl) (by kernel_rfl) (fun _ _ _ h => h) (Or.inl ⟨by rfl, ?_⟩) hHeld ?_
    rotate_left
    · intro w' hSw; try dsimp only at hSw
      go_simp; try (with_reducible rfl)
    try simp only [Act.put, List.getElem_toArray, List.getElem_cons_succ, List.getElem_cons_zero, List.setIfInBounds_toArray, List.set_cons_zero, List.set_cons_succ]
    refine wpAnyH_take (i := 9) (v := ?_) rfl (by kernel_rfl) (by kernel_rfl) (by kernel_rfl) (fun _ _ _ h => h) (Or.inl ⟨by rfl, ?_⟩) hHeld ?_
    rotate_left
    · intro w' hSw; try dsimp only at hSw
      go_simp; try (with_reducible rfl)
    try simp only [Act.put, List.getElem_toArray, List.getElem_cons_succ, List.getElem_cons_zero, List.setIfInBounds_toArray, List.set_cons_zero, List.set_cons_succ]
    refine wpAnyH_take (i := 10) (v := ?_) rfl (by kernel_rfl) (by kernel_rfl) (by kernel_rfl) (fun _ _ _ h => h) (Or.inl ⟨by rfl, ?_⟩) hHeld ?_
    rotate_left
    · intro w' hSw; try dsimp only at hSw
      obtain ⟨z0, z1, z2, z3, z4, z5, z6⟩ := (hbp.kept hSw).cells7
      go_simp; try (with_reducible rfl)
    try simp only [Act.put, List.getElem_toArray, List.getElem_cons_succ, List.getElem_cons_zero, List.setIfInBounds_toArray, List.set_cons_zero, List.set_cons_succ]
    refine wpAnyH_ready (rs := [8, 11]) (by kernel_rfl) (by simp) ?_
    refine AllReadyH.cons rfl (fun K hK => ?_) ?_
    · go_simp
      refine hK.out _ _ (bt hHeld (below_alloc _ _)) (fun hHeld => ?_)
      clear hK K
      try simp only [Act.put, List.getElem_toArray, List.getElem_cons_succ, List.getElem_cons_zero, List.setIfInBounds_toArray, List.set_cons_zero, List.set_cons_succ]
      refine wpAnyH_ready (rs := [11]) (by kernel_rfl) (by simp) ?_
      refine AllReadyH.cons rfl (fun K hK => ?_) AllReadyH.nil
      go_simp
      refine (nG _).mono ?_
      rintro e y1 ⟨gn, cn, rfl, hin1, hb1⟩
      try go_wp2_with fail
      refine hK.out _ _ (bt hHeld hb1) (fun hHeld => ?_)
      clear hK K
      try simp only [Act.put, List.getElem_toArray, List.getElem_cons_succ, List.getElem_cons_zero, List.setIfInBounds_toArray, List.set_cons_zero, List.set_cons_succ]
      have hoL := owns_below (owns_below (in_blk8 (xs := [K0, K2, nw, 0, 0, 0, 0, 0]) (n := 8) W (cs := #[.int .u8 (K0 : Int), .int .u8 (K2 : Int), .int .u8 (nw : Int), .int .u8 0, .int .u8 0, .int .u8 0, .int .u8 0, .int .u8 0]) rfl rfl (by decide)) (Below.refl _ _).drew) hb1
      have hinL := hin1
      refine wpAnyH_ready (rs := [12]) (by kernel_rfl) (by simp) ?_
      refine AllReadyH.cons rfl (fun K hK => ?_) AllReadyH.nil
      rw [if_pos (by rfl)]
      refine wp_append_bytes (.tmp 29) (.tmp 32) rfl W.heap.size _ 8 [K0, K2, nw, 0, 0, 0, 0, 0] rfl hoL _ 8 _ GB rfl hinL (by decide) hHeld.size ?_
      intro p5 c5 w5 ho5 hg5 hb5
      refine hK.out _ _ (hHeld.trans hb5) (fun hHeld => ?_)
      clear hK K
      try simp only [Act.put, List.getElem_toArray, List.getElem_cons_succ, List.getElem_cons_zero, List.setIfInBounds_toArray, List.set_cons_zero, List.set_cons_succ]
      refine wpAnyH_take (i := 13) (v := ?_) rfl (by kernel_rfl) (by kernel_rfl) (by kernel_rfl) (fun _ _ _ h => h) (Or.inl ⟨by rfl, ?_⟩) hHeld ?_
      rotate_left
      · intro w' hSw; try dsimp only at hSw
        go_simp; try (with_reducible rfl)
      try simp only [Act.put, List.getElem_toArray, List.getElem_cons_succ, List.getElem_cons_zero, List.setIfInBounds_toArray, List.set_cons_zero, List.set_cons_succ]
      refine wpAnyH_done (by kernel_rfl) ?_ _
      refine NoPanic.normal ?_
      go_wp2_with fail
      go_meet
      case rel => exact ⟨p5, c5, rfl, by rw [HHD.out]; exact ho5, hHeld⟩
    refine AllReadyH.cons rfl (fun K hK => ?_) AllReadyH.nil
    go_simp
    refine (nG _).mono ?_
    rintro e y1 ⟨gn, cn, rfl, hin1, hb1⟩
    try go_wp2_with fail
    refine hK.out _ _ (bt hHeld hb1) (fun hHeld => ?_)
    clear hK K
    try simp only [Act.put, List.getElem_toArray, List.getElem_cons_succ, List.getElem_cons_zero, List.setIfInBounds_toArray, List.set_cons_zero, List.set_cons_succ]
    refine wpAnyH_ready (rs := [8]) (by kernel_rfl) (by simp) ?_
    refine AllReadyH.cons rfl (fun K hK => ?_) AllReadyH.nil
    go_simp
    refine hK.out _ _ (bt hHeld (below_alloc _ _)) (fun hHeld => ?_)
    clear hK K
    try simp only [Act.put, List.getElem_toArray, List.getElem_cons_succ, List.getElem_cons_zero, List.setIfInBounds_toArray, List.set_cons_zero, List.set_cons_succ]
    have hoL := in_blk8 (xs := [K0, K2, nw, 0, 0, 0, 0, 0]) (n := 8) y1 (cs := #[.int .u8 (K0 : Int), .int .u8 (K2 : Int), .int .u8 (nw : Int), .int .u8 0, .int .u8 0, .int .u8 0, .int .u8 0, .int .u8 0]) rfl rfl (by decide)
    have hinL := hin1.below (below_alloc y1 (.cells #[.int .u8 (K0 : Int), .int .u8 (K2 : Int), .int .u8 (nw : Int), .int .u8 0, .int .u8 0, .int .u8 0, .int .u8 0, .int .u8 0] 5))
    replace hoL := owns_mono hoL (show W.heap.size ≤ y1.heap.size from hb1.size)
    refine wpAnyH_ready (rs := [12]) (by kernel_rfl) (by simp) ?_
    refine AllReadyH.cons rfl (fun K hK => ?_) AllReadyH.nil
    rw [if_pos (by rfl)]
    refine wp_append_bytes (.tmp 29) (.tmp 32) rfl W.heap.size _ 8 [K0, K2, nw, 0, 0, 0, 0, 0] rfl hoL _ 8 _ GB rfl hinL (by decide) hHeld.size ?_
    intro p5 c5 w5 ho5 hg5 hb5
    refine hK.out _ _ (hHeld.trans hb5) (fun hHeld => ?_)
    clear hK K
    try simp only [Act.put, List.getElem_toArray, List.getElem_cons_succ, List.getElem_cons_zero, List.setIfInBounds_toArray, List.set_cons_zero, List.set_cons_succ]
    refine wpAnyH_take (i := 13) (v := ?_) rfl (by kernel_rfl) (by kernel_rfl) (by kernel_rfl) (fun _ _ _ h => h) (Or.inl ⟨by rfl, ?_⟩) hHeld ?_
    rotate_left
    · intro w' hSw; try dsimp only at hSw
      go_simp; try (with_reducible rfl)
    try simp only [Act.put, List.getElem_toArray, List.getElem_cons_succ, List.getElem_cons_zero, List.setIfInBounds_toArray, List.set_cons_zero, List.set_cons_succ]
    refine wpAnyH_done (by kernel_rfl) ?_ _
    refine NoPanic.normal ?_
    go_wp2_with fail
    go_meet
    case rel => exact ⟨p5, c5, rfl, by rw [HHD.out]; exact ho5, hHeld⟩
  case rest =>
    obtain ⟨p4, c4, rfl, ho4, hb4⟩ := hcut
    have hbp2 := hbp.kept hb4
    replace hB : Below w.heap.size w wc := bt hB hb4
    have hWw : w.heap.size < W.heap.size := hbp.lt
    have hsz := hb4.size
    clear hbp hb4
    have hbp := hbp2
    clear hbp2
    have HXL : Hid ((hdL P).length = 16) := hdL_length P
    generalize hdL P = X0 at *
    have HO4 : Hid (wc.ownsRow W.heap.size 5 1 (.slice p4 16 c4) 16 (vals X0)) := ho4
    clear ho4
    obtain ⟨z0, z1, z2, z3, z4, z5, z6⟩ := hbp.cells7
    go_wp2_with (first
      | (go_at_call 68; refine (nS _).mono ?_; rintro e y1 ⟨gs, cs1, rfl, hin1, hb1⟩; have HO5 : Hid (y1.ownsRow W.heap.size 5 1 (.slice p4 16 c4) 16 (vals X0)) := owns_below HO4.out hb1; have hbp1 := hbp.kept hb1; have hB1 := bt hB hb1; have hs1 := Nat.le_trans hsz hb1.size)
      | (guard_target = wpList _ _ _ (Oper.mk _ (Op.call (Call.mk _ #[Operand.tmp 37, Operand.tmp 40] _)) _ _ _ _ :: _) _ _; refine wpList_append_bytes rfl (.tmp 37) (.tmp 40) rfl W.heap.size _ 16 X0 rfl HO5.out _ 8 _ SB rfl hin1 (by decide) hs1 ?_; intro p5 c5 w5 ho5 hg5 hb5; have hbp5 := hbp1.grown8 HO5.out (by decide) hg5; have hB5 : Below w.heap.size w w5 := hB1.trans (hb5.mono (Nat.le_of_lt hWw)); have hs5 := Nat.le_trans hs1 hb5.size)
      | (at_make; refine wpList_make_full _ rfl _ _ 53 rfl w5.heap.size 5 i0 (.int .u8 0) 1 Try.underlying53 hi hz0 hz1 .i64 .i64 _ _ 8 rfl rfl rfl rfl (by rw [hz2]; omega) (by unfold maxLen; omega) (Nat.le_refl _) ?_; intro w6 hown6 hgrow6))
    have hb6 := below_grown0 hgrow6
    have hbits : w6.ownsRow w5.heap.size 5 1 (.slice (some ⟨w5.heap.size, 0, none⟩) 8 8) 8 (vals (bitsTo P.bad 0)) := made_owns hown6
    clear hown6 hgrow6 hin1 hb1 hg5 hb5 hbp1 hB1 HO4 HO5 hbp hB hsz z0 z1 z2 z3 z4 z5 z6 hs1
    have hnn : nw ≤ 64 := hn.2
    go_loopw [7] (fun i wr => ∃ k : Nat, k ≤ nw ∧ i = .int .i64 k ∧ wr.ownsRow w5.heap.size 5 1 (.slice (some ⟨w5.heap.size, 0, none⟩) 8 8) 8 (vals (bitsTo P.bad k)) ∧ Below w5.heap.size w5 wr) (fun i _ => nw - (intOf i).toNat)
    case atStart => exact ⟨0, Nat.zero_le _, rfl, hbits, hb6⟩
    case round =>
      obtain ⟨k, hk, rfl, hown, hbel⟩ := hrel
      clear hbits hb6
      have hBr := bt hB5 hbel
      have hbpr := hbp5.kept hbel
      obtain ⟨z0, z1, z2, z3, z4, z5, z6⟩ := hbpr.cells7
      by_cases hlt : k < nw
      · obtain ⟨b, o, hpb, hb', hc⟩ := (hP.b.below hBr).at' (by show 0 < nw; omega)
        dsimp only at hpb
        subst hpb
        have hck := hc k hlt
        have hq : k / 8 < 8 := by omega
        have hc1 : wr.cell? ⟨w5.heap.size, k / 8, none⟩ = some (.int .u8 (el (bitsTo P.bad k) (k / 8))) := by
          rw [hown.cellAt _ (by omega), vals_get _ _ (by rw [bitsTo_length]; exact hq)]
        have hf1 : wr.frozen? ⟨w5.heap.size, k / 8, none⟩ = false := hown.frozenAt _
        clear hc
        cases he : eB P.bad k with
        | false =>
          rw [he] at hck
          have E : Hid (bitsTo P.bad (k + 1) = bitsTo P.bad k) := by show _ = _; rw [bitsTo, he]; rfl
          clear he
          go_wp2
          go_roundw
          case rel => exact ⟨k + 1, by omega, by go_num, by rw [E.out]; exact hown, hbel⟩
          case measure => simp [intOf]; omega
        | true =>
          rw [he] at hck
          have E : Hid (bitsTo P.bad (k + 1) = orLo (bitsTo P.bad k) k) := by show _ = _; rw [bitsTo, he]; rfl
          clear he
          go_wp2
          go_roundw
          case rel =>
            have hpv := lo_val (bitsTo_byte P.bad k) (k / 8) (k % 8) (by omega)
            have hst := hown.stored (k / 8) (.int .u8 (bits .or .u8 (el (bitsTo P.bad k) (k / 8)) (2 ^ (k % 8) % 256)))
            refine ⟨k + 1, by omega, by go_num, ?_, hbel.setCell (p := ⟨w5.heap.size, k / 8, none⟩) (Nat.le_refl _) _⟩
            have hs := hst.1
            rw [E.out, orLo, vals_set, ← hpv]
            exact hs
          case measure => simp [intOf]; omega
      · have hkn : k = nw := by omega
        have HBT : Hid (wr.ownsRow w5.heap.size 5 1 (.slice (some ⟨w5.heap.size, 0, none⟩) 8 8) 8 (vals (bitsTo P.bad nw))) := by show World.ownsRow _ _ _ _ _ _ _; rw [← hkn]; exact hown
        clear hkn hown hk
        have HO5 : Hid (wr.ownsRow W.heap.size 5 1 (.slice p5 24 c5) 24 (vals (X0 ++ SB))) := owns_below ho5 hbel
        have hsr := Nat.le_trans hs5 hbel.size
        have hinb : In wr (some ⟨w5.heap.size, 0, none⟩) 8 8 (bitsTo P.bad nw) := by
          obtain ⟨p', c', hv, hin⟩ := in_of_owns HBT.out (bitsTo_byte _ _) (by decide)
          cases hv
          exact hin
        have HBL : Hid ((bitsTo P.bad nw).length = 8) := bitsTo_length _ _
        generalize bitsTo P.bad nw = BT at *
        clear ho5 hbp5 hB5 hs5
        go_wp2_with (at_builtin; refine wpList_append_bytes rfl (.tmp 66) (.tmp 67) rfl W.heap.size _ 24 (X0 ++ SB) rfl HO5.out _ 8 _ BT rfl hinb (by decide) hsr ?_; intro p7 c7 w7 ho7 hg7 hb7; have hbp7 := hbpr.grown8 HO5.out (by decide) hg7; have hB7 : Below w.heap.size w w7 := hBr.trans (hb7.mono (Nat.le_of_lt hWw)); have hs7 := Nat.le_trans hsr hb7.size)
        clear hg7 hb7 hinb HO5 HBT hsr hbpr hBr hbel z0 z1 z2 z3 z4 z5 z6
        have HYL : Hid ((X0 ++ SB ++ BT).length = 32) := by show _ = _; rw [List.length_append, List.length_append, HXL.out, HSL.out, HBL.out]
        generalize X0 ++ SB ++ BT = Y at *
        go_loopw [5, 8] (fun bv i wr => ∃ (k A : Nat) (pv : Option Addr) (cv : Nat), k ≤ nw ∧ A = 32 + 3 * k ∧ i = .int .i64 k ∧ bv = .slice pv A cv ∧ wr.ownsRow W.heap.size 5 1 (.slice pv A cv) A (vals (Y ++ wearsL (P.wear.take k))) ∧ Blk wr w.heap.size 42 (PV.cells ⟨pb, nw, cb, pw, nw, cw, pr, 0, cr⟩ P) ∧ Below w.heap.size w wr ∧ W.heap.size ≤ wr.heap.size) (fun _ i _ => nw - (intOf i).toNat)
        case atStart => exact ⟨0, 32, p7, c7, Nat.zero_le _, rfl, rfl, rfl, by simpa [wearsL] using ho7, hbp7, hB7, hs7⟩
        case round =>
          obtain ⟨k, A, pv, cv, hk, hA0, rfl, rfl, hoA, hbpr, hBr, hsr⟩ := hrel
          have HA : Hid (A = 32 + 3 * k) := hA0
          clear hA0 ho7 hbp7 hB7 hs7
          obtain ⟨z0, z1, z2, z3, z4, z5, z6⟩ := hbpr.cells7
          by_cases hlt : k < nw
          · obtain ⟨b, o, hpw, hb', hc⟩ := (hP.v.below hBr).at' (by show 0 < nw; omega)
            dsimp only at hpw
            subst hpw
            have hck := hc k hlt
            clear hc
            have hwk2 := HW.out k hlt
            have nW := fun X => num_int (eI P.wear k) 3 hwk2.1 (by have := hwk2.2; omega) (by decide) (by decide) X
            have HSN : Hid (wearsL (P.wear.take (k + 1)) = wearsL (P.wear.take k) ++ beL 3 (eI P.wear k).toNat) := wearsL_snoc _ _ (by omega)
            have HAL : Hid (A ≤ 1000) := by show _ ≤ _; rw [HA.out]; omega
            clear hwk2
            generalize beL 3 (eI P.wear k).toNat = EB at *
            generalize eI P.wear k = zz at *
            have HOA : Hid (wr.ownsRow W.heap.size 5 1 (.slice pv A cv) A (vals (Y ++ wearsL (P.wear.take k)))) := hoA
            clear hoA
            generalize wearsL (P.wear.take k) = WK at *
            go_wp2_with (first
              | (go_at_call 68; refine (nW _).mono ?_; rintro e y1 ⟨gs, cs1, rfl, hin1, hb1⟩; have HO1 : Hid (y1.ownsRow W.heap.size 5 1 (.slice pv A cv) A (vals (Y ++ WK))) := owns_below HOA.out hb1; have hbp1 := hbpr.kept hb1; have hB1 := bt hBr hb1; have hs1 := Nat.le_trans hsr hb1.size)
              | (at_builtin; refine wpList_append_bytes rfl (.tmp 76) (.tmp 82) rfl W.heap.size _ A (Y ++ WK) rfl HO1.out _ 3 _ EB rfl hin1 (by have := HAL.out; omega) hs1 ?_; intro p9 c9 w9 ho9 hg9 hb9; have hbp9 := hbp1.grown8 HO1.out (by decide) hg9; have hB9 : Below w.heap.size w w9 := hB1.trans (hb9.mono (Nat.le_of_lt hWw)); have hs9 := Nat.le_trans hs1 hb9.size))
            go_roundw
            case rel => exact ⟨k + 1, A + 3, p9, c9, by omega, by rw [HA.out]; omega, by go_num, rfl, by rw [HSN.out, ← List.append_assoc]; exact ho9, hbp9, hB9, hs9⟩
            case measure => simp [intOf]; omega
          · have hkn : k = nw := by omega
            have HTK : Hid (P.wear.take k = P.wear) := List.take_of_length_le (by rw [hlw]; omega)
            rw [HTK.out] at hoA
            rw [← HBD.out] at hoA
            have HN0 : Hid ((bodyL P).length = A ∧ A ≤ 256) := by
              show _ ∧ _
              refine ⟨?_, by rw [HA.out]; omega⟩
              rw [HBD.out, List.length_append, HYL.out, wearsL_length, hlw, HA.out, hkn]
            obtain ⟨N0, HNA⟩ : ∃ N0 : Nat, Hid (N0 = A) := ⟨_, rfl⟩
            rw [← HNA.out] at HN0
            clear hkn hk HTK HYL
            obtain ⟨BD, HBD2⟩ : ∃ BD, Hid (bodyL P = BD) := ⟨_, rfl⟩
            rw [HBD2.out] at hoA HN0
            go_wp2_with fail
            go_loopw [5, 9] (fun bv i wr' => bv = .slice pv A cv ∧ i = .int .i64 0 ∧ wr' = wr) (fun _ _ _ => 0)
            case atStart => exact ⟨rfl, rfl, rfl⟩
            case round =>
              obtain ⟨rfl, rfl, rfl⟩ := hrel
              go_wp2_with fail
              have hoF := hoA
              have hBF := hBr
              have hsF := hsr
              clear hoA hBr hsr hbpr z0 z1 z2 z3 z4 z5 z6
              have hAN : N0 = A := HNA.out
              subst hAN
              go_loopw [5] (fun bv wr => ∃ (A : Nat) (pv : Option Addr) (cv : Nat), N0 ≤ A ∧ A ≤ 256 ∧ bv = .slice pv A cv ∧ wr.ownsRow W.heap.size 5 1 (.slice pv A cv) A (vals (BD ++ List.replicate (A - N0) 0)) ∧ Below w.heap.size w wr ∧ W.heap.size ≤ wr.heap.size) (fun bv _ => 256 - lenOf8 bv)
              case atStart => exact ⟨N0, _, _, Nat.le_refl _, HN0.out.2, rfl, by rw [Nat.sub_self]; simpa using hoF, hBF, hsF⟩
              case round =>
                obtain ⟨A, pv, cv, hA1, hA2, rfl, hoA, hBA, hsA⟩ := hrel
                clear hoF hBF hsF
                by_cases hlt : A < 256
                · have hai : (A : Int) < 256 := by omega
                  have hal := below_alloc wr (.cells #[.int .u8 0] 5)
                  have hlit : In (wr.alloc (.cells #[.int .u8 0] 5)) (some ⟨wr.heap.size, 0, none⟩) 1 1 [0] := in_lit wr rfl rfl (by simp) (by decide)
                  have HOA : Hid ((wr.alloc (.cells #[.int .u8 0] 5)).ownsRow W.heap.size 5 1 (.slice pv A cv) A (vals (BD ++ List.replicate (A - N0) 0))) := owns_below hoA hal
                  have HSA : Hid (W.heap.size ≤ (wr.alloc (.cells #[.int .u8 0] 5)).heap.size) := Nat.le_trans hsA hal.size
                  have hBA2 := bt hBA hal
                  have HRE : Hid ((BD ++ List.replicate (A - N0) 0) ++ [0] = BD ++ List.replicate (A + 1 - N0) 0) := by show _ = _; rw [List.append_assoc, show A + 1 - N0 = (A - N0) + 1 by omega, List.replicate_succ']
                  clear hoA hsA hal
                  go_wp2_with (at_builtin; refine wpList_append_bytes rfl (.tmp 112) (.tmp 113) rfl W.heap.size _ A _ rfl HOA.out _ 1 _ [0] rfl hlit (by omega) HSA.out ?_; intro p9 c9 w9 ho9 hg9 hb9)
                  go_roundw
                  case rel => exact ⟨A + 1, p9, c9, by omega, by omega, rfl, by rw [← HRE.out]; exact ho9, hBA2.trans (hb9.mono (Nat.le_of_lt hWw)), Nat.le_trans HSA.out hb9.size⟩
                  case measure => simp [lenOf8]; omega
                · have hA : A = 256 := by omega
                  subst hA
                  go_wp2
                  go_ret2
                  refine ⟨pv, cv, rfl, ?_, hBA⟩
                  have hfin : refL P = BD ++ List.replicate (256 - N0) 0 := by unfold refL; rw [HBD2.out, HN0.out.1]
                  rw [hfin]
                  exact owns_mono hoA (Nat.le_of_lt hWw)
end Go.Proofs.Ytpikaagdiafieaa
