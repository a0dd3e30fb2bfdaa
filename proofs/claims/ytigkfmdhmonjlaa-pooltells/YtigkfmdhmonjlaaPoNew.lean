/-
  What New answers.
-/
import Derived.Test.YtigkfmdhmonjlaaPoRSet
import Derived.Test.YtigkfmdhmonjlaaPoRepeat
namespace Go.Proofs.Ytigkfmdhmonjlaa
open Go.RowKit
/-- A pool's roles, once the blocks of a list are bad; nothing, if one of them is none, or stands twice. -/
def badTo (R : List Int) : List Int → Option (List Int)
  | [] => some R
  | b :: r => if isB R b && decide (¬ eI R b.toNat = 6) then badTo (R.set b.toNat 6) r else none
def newS (blocks : Int) (bad : List Int) : List Int × List Int × Int :=
  if 16 ≤ blocks ∧ blocks ≤ 256 then (match badTo (List.replicate blocks.toNat 1) bad with | some R => (R, List.replicate blocks.toNat 0, 0) | none => ([], [], 22)) else ([], [], 20)
theorem badTo_cons {R : List Int} {bad : List Int} {k : Nat} (hk : k < bad.length) : badTo R (bad.drop k) = if isB R (eI bad k) && decide (¬ eI R (eI bad k).toNat = 6) then badTo (R.set (eI bad k).toNat 6) (bad.drop (k + 1)) else none := by
  rw [List.drop_eq_getElem_cons hk]
  simp only [badTo, eI]
  simp [hk]
theorem make_zeros (n : Nat) (hn : n ≤ 1000000) (W : World) : (Instr.makeSlice 23 (.int .i64 (n : Int)) (.int .i64 (n : Int))).run Try.prog W = .ok (.slice (some ⟨W.heap.size, 0, none⟩) n n) (W.alloc (.cells (valsI (List.replicate n 0)).toArray 2)) := by
  obtain ⟨i0, hi, hz0, hz1, hz2⟩ := info_parts info2
  have := run_make (P := Try.prog) W 23 2 i0 (.int .i64 0) Try.underlying23 hi hz0 .i64 .i64 (n : Int) (n : Int) (by omega) (by omega) (by rw [hz2]; omega) (by omega)
  rw [this, hz1]
  have e : madeCells (Value.int .i64 0).cells ((n : Int).toNat * 1) = (valsI (List.replicate n 0)).toArray := by
    apply Array.toList_inj.1
    rw [show (Value.int .i64 0).cells = #[Value.int .i64 0] from rfl, toList_madeCells_one, valsI_rep]
    simp
  rw [e]
  simp
theorem owns_of_blkI {w : World} {B g n : Nat} {e : TypeId} {xs : List Int} (hB : B ≤ g) (hn : xs.length = n) (hm : n ≤ maxLen) (h : Blk w g e (valsI xs)) : w.ownsRow B e 1 (.slice (some ⟨g, 0, none⟩) n n) n (valsI xs) :=
  ⟨by rw [valsI_length]; omega, .inr ⟨g, n, (valsI xs).toArray, rfl, hB, h, Nat.le_refl _, hm, by simp [valsI_length, hn], by rw [List.take_of_length_le (by simp [valsI_length]; omega)]⟩⟩
theorem in_one (W : World) : InI (W.alloc (.cells #[.int .i64 1] 3)) (some ⟨W.heap.size, 0, none⟩) 1 1 [1] := by
  have b := Blk.new' W 3 #[.int .i64 1]
  refine ⟨rfl, Nat.le_refl _, by unfold maxLen; omega, by omega, fun _ => ⟨W.heap.size, 0, rfl, b.lt, fun i hi => ?_⟩, fun h => by cases h⟩
  obtain rfl : i = 0 := Nat.lt_one_iff.1 hi
  exact b.cell' rfl
/-- What New holds behind its first statement. -/
structure NS (w : World) (n : Nat) (gp g1 g2 : Nat) (R : List Int) (W : World) : Prop where
  bel : Below w.heap.size w W
  box : Blk W gp 25 [.slice (some ⟨g1, 0, none⟩) n n, .slice (some ⟨g2, 0, none⟩) n n]
  res : ∃ x y, Blk W w.heap.size 25 [x, y]
  np : NewP (w.heap.size + 1) W (some ⟨g1, 0, none⟩) n n (some ⟨g2, 0, none⟩) n n R (List.replicate n 0)
  far : w.heap.size < gp ∧ gp ≠ g1 ∧ gp ≠ g2
theorem NS.next {w W W' : World} {n gp g1 g2 : Nat} {R : List Int} (h : NS w n gp g1 g2 R W) (hb : Below W.heap.size W W') : NS w n gp g1 g2 R W' := by
  obtain ⟨x, y, hr⟩ := h.res
  exact ⟨h.bel.trans (hb.mono h.bel.size), h.box.kept hb, ⟨x, y, hr.kept hb⟩, h.np.next hb, h.far⟩
theorem NS.set {w W : World} {n gp g1 g2 j : Nat} {R : List Int} (h : NS w n gp g1 g2 R W) (hj : j < n) (z : Int) : NS w n gp g1 g2 (R.set j z) (W.setCell ⟨g1, j, none⟩ (.int .i64 z)) ∧ W.cell? ⟨g1, j, none⟩ = some (.int .i64 (eI R j)) ∧ W.frozen? ⟨g1, j, none⟩ = false := by
  have hg := h.np.g1
  have hl := h.np.inR.len
  have t2 := Turned.setCell W ⟨g1, j, none⟩ (.int .i64 z)
  have r2 := (h.np.r.stored j (.int .i64 z)).1
  rw [valsI_set] at r2
  have f1 := h.np.r.cellAt j (by omega)
  rw [valsI_get R j (by omega)] at f1
  obtain ⟨x, y, hr⟩ := h.res
  exact ⟨⟨t2.below h.bel (show w.heap.size ≤ g1 by omega), h.box.turned t2 h.far.2.1, ⟨x, y, hr.turned t2 (show w.heap.size ≠ g1 by omega)⟩, ⟨r2, owns_turned h.np.v t2 (fun a e h' => h.np.ne _ a rfl e h'.symm), h.np.hn, h.np.hm, h.np.ne⟩, h.far⟩, f1, h.np.r.frozenAt j⟩
set_option linter.unusedSimpArgs false in
set_option maxHeartbeats 4000000 in
theorem new_any (blocks : Int) (s : Option Addr) (r e : Nat) (bad : List Int) (w : World) (hl : InI w s r e bad) :
    Calls Try.prog 9 #[.int .i64 blocks, .slice s r e] w (PoolRes w (newS blocks bad)) := by
  have HLl : Hid (bad.length = r) := hl.len
  have hr47 := hl.room
  have res0 := Blk.new' w 25 #[.slice none 0 0, .slice none 0 0]
  have bel0 := below_alloc w (.cells #[.slice none 0 0, .slice none 0 0] 25)
  by_cases hbl : 16 ≤ blocks ∧ blocks ≤ 256
  · obtain ⟨n, rfl⟩ : ∃ n : Nat, blocks = (n : Int) := ⟨blocks.toNat, by omega⟩
    have hn16 : 16 ≤ n := by omega
    have hn256 : n ≤ 256 := by omega
    have HS : Hid (newS (n : Int) bad = (match badTo (List.replicate n 1) bad with | some R => (R, List.replicate n 0, 0) | none => ([], [], 22))) := by show _ = _; unfold newS; rw [if_pos hbl, Int.toNat_natCast]
    have hmk := make_zeros n (by omega)
    go_enter Try.func9, Try.ntmps9
    go_upto_region 3 with (go_at_call 41; refine (within_yes _ hbl.1 hbl.2).mono ?_; rintro e w' ⟨rfl, hw'⟩; have hw2 := hw'.symm; subst hw2; clear hw')
    clear hbl
    go_cut [6] from 13 (fun s6 wc => ∃ gp g1 g2, s6 = .pointer (some ⟨gp, 0, none⟩) ∧ NS w n gp g1 g2 (List.replicate n 1) wc)
    case first =>
      refine wp_region_noPanic ?_
      refine wp_region_held_drew (S := fun W => Below w.heap.size w W ∧ Blk W w.heap.size 25 [.slice none 0 0, .slice none 0 0]) (by kernel_rfl) ⟨bel0.drew, res0.drew⟩ (fun hHeld => ?_)
      refine wpAnyH_take (i := 1) (v := ?_) rfl (by kernel_rfl) (by kernel_rfl) (by kernel_rfl) (fun _ _ _ h => h) (Or.inl ⟨by rfl, ?_⟩) hHeld ?_
      rotate_left
      · intro w' hSw; try dsimp only at hSw
        go_simp; try (with_reducible rfl)
      try simp only [Act.put, List.getElem_toArray, List.getElem_cons_succ, List.getElem_cons_zero, List.setIfInBounds_toArray, List.set_cons_zero, List.set_cons_succ]
      refine wpAnyH_take (i := 3) (v := ?_) rfl (by kernel_rfl) (by kernel_rfl) (by kernel_rfl) (fun _ _ _ h => h) (Or.inl ⟨by rfl, ?_⟩) hHeld ?_
      rotate_left
      · intro w' hSw; try dsimp only at hSw
        go_simp; try (with_reducible rfl)
      try simp only [Act.put, List.getElem_toArray, List.getElem_cons_succ, List.getElem_cons_zero, List.setIfInBounds_toArray, List.set_cons_zero, List.set_cons_succ]
      have hsz0 : w.heap.size + 1 ≤ (w.alloc (.cells #[.slice none 0 0, .slice none 0 0] 25)).drew.heap.size := by show _ ≤ (w.alloc _).heap.size; rw [World.size_alloc]; exact Nat.le_refl _
      clear bel0 res0
      generalize (w.alloc (.cells #[.slice none 0 0, .slice none 0 0] 25)).drew = W0 at *
      refine wpAnyH_ready (rs := [0, 4, 6]) (by kernel_rfl) (by simp) ?_
      refine AllReadyH.cons rfl (fun K hK => ?_) ?_
      · go_simp
        refine hK.out _ _ ⟨bt hHeld.1 (below_alloc _ _), hHeld.2.alloc _⟩ (fun hHeld => ?_)
        clear hK K
        try simp only [Act.put, List.getElem_toArray, List.getElem_cons_succ, List.getElem_cons_zero, List.setIfInBounds_toArray, List.set_cons_zero, List.set_cons_succ]
        have hb1 := below_alloc W0 (.cells #[.int .i64 1] 3)
        have hs1 := hb1.size
        have f0 := in_one W0
        obtain ⟨g0, hg0⟩ : ∃ g, g = W0.heap.size := ⟨_, rfl⟩
        rw [← hg0] at f0 ⊢
        have hg0a := Nat.le_of_eq hg0
        have hg0b := Nat.le_of_eq hg0.symm
        clear hg0
        generalize W0.alloc (.cells #[.int .i64 1] 3) = W1 at *
        refine wpAnyH_ready (rs := [2, 4, 6]) (by kernel_rfl) (by simp) ?_
        refine AllReadyH.cons rfl (fun K hK => ?_) ?_
        · go_simp
          refine (repeat_any g0 0 1 n (by omega) (by omega) _ f0).mono ?_
          rintro e W2 ⟨rfl, f1, hb2⟩
          try go_wp2_with fail
          refine hK.out _ _ ⟨bt hHeld.1 hb2, hHeld.2.kept hb2⟩ (fun hHeld => ?_)
          clear hK K
          try simp only [Act.put, List.getElem_toArray, List.getElem_cons_succ, List.getElem_cons_zero, List.setIfInBounds_toArray, List.set_cons_zero, List.set_cons_succ]
          have hs2 := hb2.size
          replace f0 := f0.below hb2
          obtain ⟨g1, hg1⟩ : ∃ g, g = W1.heap.size := ⟨_, rfl⟩
          rw [← hg1] at f1 ⊢
          have hg1a := Nat.le_of_eq hg1
          have hg1b := Nat.le_of_eq hg1.symm
          clear hg1
          have hg1' := f1.lt
          clear f0
          refine wpAnyH_ready (rs := [4, 6]) (by kernel_rfl) (by simp) ?_
          refine AllReadyH.cons rfl (fun K hK => ?_) ?_
          · go_simp
            refine hK.out _ _ ⟨bt hHeld.1 (below_alloc _ _), hHeld.2.alloc _⟩ (fun hHeld => ?_)
            clear hK K
            try simp only [Act.put, List.getElem_toArray, List.getElem_cons_succ, List.getElem_cons_zero, List.setIfInBounds_toArray, List.set_cons_zero, List.set_cons_succ]
            have hb3 := below_alloc W2 (.cells (valsI (List.replicate n 0)).toArray 2)
            have hs3 := hb3.size
            replace f1 := f1.kept hb3
            have f2 := Blk.new W2 2 (valsI (List.replicate n 0))
            obtain ⟨g2, hg2⟩ : ∃ g, g = W2.heap.size := ⟨_, rfl⟩
            rw [← hg2] at f2 ⊢
            have hg2a := Nat.le_of_eq hg2
            have hg2b := Nat.le_of_eq hg2.symm
            clear hg2
            have hg2' := f2.lt
            generalize W2.alloc (.cells (valsI (List.replicate n 0)).toArray 2) = W3 at *
            refine wpAnyH_take (i := 5) (v := ?_) rfl (by kernel_rfl) (by kernel_rfl) (by kernel_rfl) (fun _ _ _ h => h) (Or.inl ⟨by rfl, ?_⟩) hHeld ?_
            rotate_left
            · intro w' hSw; try dsimp only at hSw
              go_simp; try (with_reducible rfl)
            try simp only [Act.put, List.getElem_toArray, List.getElem_cons_succ, List.getElem_cons_zero, List.setIfInBounds_toArray, List.set_cons_zero, List.set_cons_succ]
            refine wpAnyH_ready (rs := [6]) (by kernel_rfl) (by simp) ?_
            refine AllReadyH.cons rfl (fun K hK => ?_) AllReadyH.nil
            go_simp
            refine hK.out _ _ ⟨bt hHeld.1 (below_alloc _ _), hHeld.2.alloc _⟩ (fun hHeld => ?_)
            clear hK K
            try simp only [Act.put, List.getElem_toArray, List.getElem_cons_succ, List.getElem_cons_zero, List.setIfInBounds_toArray, List.set_cons_zero, List.set_cons_succ]
            have hb4 := below_alloc W3 (.cells #[.slice none 0 0, .slice none 0 0] 25)
            have hs4 := hb4.size
            replace f1 := f1.kept hb4
            replace f2 := f2.kept hb4
            have fp := Blk.new' W3 25 #[.slice none 0 0, .slice none 0 0]
            obtain ⟨gp, hgp⟩ : ∃ g, g = W3.heap.size := ⟨_, rfl⟩
            rw [← hgp] at fp ⊢
            have hgpa := Nat.le_of_eq hgp
            have hgpb := Nat.le_of_eq hgp.symm
            clear hgp
            have hgp' := fp.lt
            generalize W3.alloc (.cells #[.slice none 0 0, .slice none 0 0] 25) = W4 at *
            refine wpAnyH_ready (rs := [7]) (by kernel_rfl) (by simp) ?_
            refine AllReadyH.cons rfl (fun K hK => ?_) AllReadyH.nil
            rw [if_pos (by rfl)]
            refine wp_store_blk 25 (.tmp 6) _ rfl _ _ [.slice (some ⟨g1, 0, none⟩) n n, .slice (some ⟨g2, 0, none⟩) n n] rfl rfl fp (by simp) (poolSize _ _) one2 ?_
            intro w9 h9 ht9
            replace h9 : Blk w9 gp 25 [.slice (some ⟨g1, 0, none⟩) n n, .slice (some ⟨g2, 0, none⟩) n n] := h9
            refine hK.out _ _ ⟨ht9.below hHeld.1 (by omega), hHeld.2.turned ht9 (by omega)⟩ (fun hHeld => ?_)
            clear hK K
            try simp only [Act.put, List.getElem_toArray, List.getElem_cons_succ, List.getElem_cons_zero, List.setIfInBounds_toArray, List.set_cons_zero, List.set_cons_succ]
            refine wpAnyH_done (by kernel_rfl) ?_ _
            refine NoPanic.normal ?_
            go_wp2_with fail
            go_meet
            case rel => exact ⟨gp, g1, g2, rfl, hHeld.1, h9, ⟨_, _, hHeld.2⟩, ⟨owns_of_blkI (by omega) (by simp) (by unfold maxLen; omega) (f1.turned ht9 (by omega)), owns_of_blkI (by omega) (by simp) (by unfold maxLen; omega) (f2.turned ht9 (by omega)), by omega, by omega, fun a b ha hb => by cases ha; cases hb; show g1 ≠ g2; omega⟩, by omega, by omega, by omega⟩
          refine AllReadyH.cons rfl (fun K hK => ?_) AllReadyH.nil
          go_simp
          refine hK.out _ _ ⟨bt hHeld.1 (below_alloc _ _), hHeld.2.alloc _⟩ (fun hHeld => ?_)
          clear hK K
          try simp only [Act.put, List.getElem_toArray, List.getElem_cons_succ, List.getElem_cons_zero, List.setIfInBounds_toArray, List.set_cons_zero, List.set_cons_succ]
          have hb3 := below_alloc W2 (.cells #[.slice none 0 0, .slice none 0 0] 25)
          have hs3 := hb3.size
          replace f1 := f1.kept hb3
          have fp := Blk.new' W2 25 #[.slice none 0 0, .slice none 0 0]
          obtain ⟨gp, hgp⟩ : ∃ g, g = W2.heap.size := ⟨_, rfl⟩
          rw [← hgp] at fp ⊢
          have hgpa := Nat.le_of_eq hgp
          have hgpb := Nat.le_of_eq hgp.symm
          clear hgp
          have hgp' := fp.lt
          generalize W2.alloc (.cells #[.slice none 0 0, .slice none 0 0] 25) = W3 at *
          refine wpAnyH_ready (rs := [4]) (by kernel_rfl) (by simp) ?_
          refine AllReadyH.cons rfl (fun K hK => ?_) AllReadyH.nil
          go_simp
          refine hK.out _ _ ⟨bt hHeld.1 (below_alloc _ _), hHeld.2.alloc _⟩ (fun hHeld => ?_)
          clear hK K
          try simp only [Act.put, List.getElem_toArray, List.getElem_cons_succ, List.getElem_cons_zero, List.setIfInBounds_toArray, List.set_cons_zero, List.set_cons_succ]
          have hb4 := below_alloc W3 (.cells (valsI (List.replicate n 0)).toArray 2)
          have hs4 := hb4.size
          replace f1 := f1.kept hb4
          replace fp := fp.kept hb4
          have f2 := Blk.new W3 2 (valsI (List.replicate n 0))
          obtain ⟨g2, hg2⟩ : ∃ g, g = W3.heap.size := ⟨_, rfl⟩
          rw [← hg2] at f2 ⊢
          have hg2a := Nat.le_of_eq hg2
          have hg2b := Nat.le_of_eq hg2.symm
          clear hg2
          have hg2' := f2.lt
          generalize W3.alloc (.cells (valsI (List.replicate n 0)).toArray 2) = W4 at *
          refine wpAnyH_take (i := 5) (v := ?_) rfl (by kernel_rfl) (by kernel_rfl) (by kernel_rfl) (fun _ _ _ h => h) (Or.inl ⟨by rfl, ?_⟩) hHeld ?_
          rotate_left
          · intro w' hSw; try dsimp only at hSw
            go_simp; try (with_reducible rfl)
          try simp only [Act.put, List.getElem_toArray, List.getElem_cons_succ, List.getElem_cons_zero, List.setIfInBounds_toArray, List.set_cons_zero, List.set_cons_succ]
          refine wpAnyH_ready (rs := [7]) (by kernel_rfl) (by simp) ?_
          refine AllReadyH.cons rfl (fun K hK => ?_) AllReadyH.nil
          rw [if_pos (by rfl)]
          refine wp_store_blk 25 (.tmp 6) _ rfl _ _ [.slice (some ⟨g1, 0, none⟩) n n, .slice (some ⟨g2, 0, none⟩) n n] rfl rfl fp (by simp) (poolSize _ _) one2 ?_
          intro w9 h9 ht9
          replace h9 : Blk w9 gp 25 [.slice (some ⟨g1, 0, none⟩) n n, .slice (some ⟨g2, 0, none⟩) n n] := h9
          refine hK.out _ _ ⟨ht9.below hHeld.1 (by omega), hHeld.2.turned ht9 (by omega)⟩ (fun hHeld => ?_)
          clear hK K
          try simp only [Act.put, List.getElem_toArray, List.getElem_cons_succ, List.getElem_cons_zero, List.setIfInBounds_toArray, List.set_cons_zero, List.set_cons_succ]
          refine wpAnyH_done (by kernel_rfl) ?_ _
          refine NoPanic.normal ?_
          go_wp2_with fail
          go_meet
          case rel => exact ⟨gp, g1, g2, rfl, hHeld.1, h9, ⟨_, _, hHeld.2⟩, ⟨owns_of_blkI (by omega) (by simp) (by unfold maxLen; omega) (f1.turned ht9 (by omega)), owns_of_blkI (by omega) (by simp) (by unfold maxLen; omega) (f2.turned ht9 (by omega)), by omega, by omega, fun a b ha hb => by cases ha; cases hb; show g1 ≠ g2; omega⟩, by omega, by omega, by omega⟩
        refine AllReadyH.cons rfl (fun K hK => ?_) ?_
        · go_simp
          refine hK.out _ _ ⟨bt hHeld.1 (below_alloc _ _), hHeld.2.alloc _⟩ (fun hHeld => ?_)
          clear hK K
          try simp only [Act.put, List.getElem_toArray, List.getElem_cons_succ, List.getElem_cons_zero, List.setIfInBounds_toArray, List.set_cons_zero, List.set_cons_succ]
          have hb2 := below_alloc W1 (.cells (valsI (List.replicate n 0)).toArray 2)
          have hs2 := hb2.size
          replace f0 := f0.below hb2
          have f2 := Blk.new W1 2 (valsI (List.replicate n 0))
          obtain ⟨g2, hg2⟩ : ∃ g, g = W1.heap.size := ⟨_, rfl⟩
          rw [← hg2] at f2 ⊢
          have hg2a := Nat.le_of_eq hg2
          have hg2b := Nat.le_of_eq hg2.symm
          clear hg2
          have hg2' := f2.lt
          generalize W1.alloc (.cells (valsI (List.replicate n 0)).toArray 2) = W2 at *
          refine wpAnyH_ready (rs := [2, 6]) (by kernel_rfl) (by simp) ?_
          refine AllReadyH.cons rfl (fun K hK => ?_) ?_
          · go_simp
            refine (repeat_any g0 0 1 n (by omega) (by omega) _ f0).mono ?_
            rintro e W3 ⟨rfl, f1, hb3⟩
            try go_wp2_with fail
            refine hK.out _ _ ⟨bt hHeld.1 hb3, hHeld.2.kept hb3⟩ (fun hHeld => ?_)
            clear hK K
            try simp only [Act.put, List.getElem_toArray, List.getElem_cons_succ, List.getElem_cons_zero, List.setIfInBounds_toArray, List.set_cons_zero, List.set_cons_succ]
            have hs3 := hb3.size
            replace f0 := f0.below hb3
            replace f2 := f2.kept hb3
            obtain ⟨g1, hg1⟩ : ∃ g, g = W2.heap.size := ⟨_, rfl⟩
            rw [← hg1] at f1 ⊢
            have hg1a := Nat.le_of_eq hg1
            have hg1b := Nat.le_of_eq hg1.symm
            clear hg1
            have hg1' := f1.lt
            clear f0
            refine wpAnyH_take (i := 5) (v := ?_) rfl (by kernel_rfl) (by kernel_rfl) (by kernel_rfl) (fun _ _ _ h => h) (Or.inl ⟨by rfl, ?_⟩) hHeld ?_
            rotate_left
            · intro w' hSw; try dsimp only at hSw
              go_simp; try (with_reducible rfl)
            try simp only [Act.put, List.getElem_toArray, List.getElem_cons_succ, List.getElem_cons_zero, List.setIfInBounds_toArray, List.set_cons_zero, List.set_cons_succ]
            refine wpAnyH_ready (rs := [6]) (by kernel_rfl) (by simp) ?_
            refine AllReadyH.cons rfl (fun K hK => ?_) AllReadyH.nil
            go_simp
            refine hK.out _ _ ⟨bt hHeld.1 (below_alloc _ _), hHeld.2.alloc _⟩ (fun hHeld => ?_)
            clear hK K
            try simp only [Act.put, List.getElem_toArray, List.getElem_cons_succ, List.getElem_cons_zero, List.setIfInBounds_toArray, List.set_cons_zero, List.set_cons_succ]
            have hb4 := below_alloc W3 (.cells #[.slice none 0 0, .slice none 0 0] 25)
            have hs4 := hb4.size
            replace f1 := f1.kept hb4
            replace f2 := f2.kept hb4
            have fp := Blk.new' W3 25 #[.slice none 0 0, .slice none 0 0]
            obtain ⟨gp, hgp⟩ : ∃ g, g = W3.heap.size := ⟨_, rfl⟩
            rw [← hgp] at fp ⊢
            have hgpa := Nat.le_of_eq hgp
            have hgpb := Nat.le_of_eq hgp.symm
            clear hgp
            have hgp' := fp.lt
            generalize W3.alloc (.cells #[.slice none 0 0, .slice none 0 0] 25) = W4 at *
            refine wpAnyH_ready (rs := [7]) (by kernel_rfl) (by simp) ?_
            refine AllReadyH.cons rfl (fun K hK => ?_) AllReadyH.nil
            rw [if_pos (by rfl)]
            refine wp_store_blk 25 (.tmp 6) _ rfl _ _ [.slice (some ⟨g1, 0, none⟩) n n, .slice (some ⟨g2, 0, none⟩) n n] rfl rfl fp (by simp) (poolSize _ _) one2 ?_
            intro w9 h9 ht9
            replace h9 : Blk w9 gp 25 [.slice (some ⟨g1, 0, none⟩) n n, .slice (some ⟨g2, 0, none⟩) n n] := h9
            refine hK.out _ _ ⟨ht9.below hHeld.1 (by omega), hHeld.2.turned ht9 (by omega)⟩ (fun hHeld => ?_)
            clear hK K
            try simp only [Act.put, List.getElem_toArray, List.getElem_cons_succ, List.getElem_cons_zero, List.setIfInBounds_toArray, List.set_cons_zero, List.set_cons_succ]
            refine wpAnyH_done (by kernel_rfl) ?_ _
            refine NoPanic.normal ?_
            go_wp2_with fail
            go_meet
            case rel => exact ⟨gp, g1, g2, rfl, hHeld.1, h9, ⟨_, _, hHeld.2⟩, ⟨owns_of_blkI (by omega) (by simp) (by unfold maxLen; omega) (f1.turned ht9 (by omega)), owns_of_blkI (by omega) (by simp) (by unfold maxLen; omega) (f2.turned ht9 (by omega)), by omega, by omega, fun a b ha hb => by cases ha; cases hb; show g1 ≠ g2; omega⟩, by omega, by omega, by omega⟩
          refine AllReadyH.cons rfl (fun K hK => ?_) AllReadyH.nil
          go_simp
          refine hK.out _ _ ⟨bt hHeld.1 (below_alloc _ _), hHeld.2.alloc _⟩ (fun hHeld => ?_)
          clear hK K
          try simp only [Act.put, List.getElem_toArray, List.getElem_cons_succ, List.getElem_cons_zero, List.setIfInBounds_toArray, List.set_cons_zero, List.set_cons_succ]
          have hb3 := below_alloc W2 (.cells #[.slice none 0 0, .slice none 0 0] 25)
          have hs3 := hb3.size
          replace f0 := f0.below hb3
          replace f2 := f2.kept hb3
          have fp := Blk.new' W2 25 #[.slice none 0 0, .slice none 0 0]
          obtain ⟨gp, hgp⟩ : ∃ g, g = W2.heap.size := ⟨_, rfl⟩
          rw [← hgp] at fp ⊢
          have hgpa := Nat.le_of_eq hgp
          have hgpb := Nat.le_of_eq hgp.symm
          clear hgp
          have hgp' := fp.lt
          generalize W2.alloc (.cells #[.slice none 0 0, .slice none 0 0] 25) = W3 at *
          refine wpAnyH_ready (rs := [2]) (by kernel_rfl) (by simp) ?_
          refine AllReadyH.cons rfl (fun K hK => ?_) AllReadyH.nil
          go_simp
          refine (repeat_any g0 0 1 n (by omega) (by omega) _ f0).mono ?_
          rintro e W4 ⟨rfl, f1, hb4⟩
          try go_wp2_with fail
          refine hK.out _ _ ⟨bt hHeld.1 hb4, hHeld.2.kept hb4⟩ (fun hHeld => ?_)
          clear hK K
          try simp only [Act.put, List.getElem_toArray, List.getElem_cons_succ, List.getElem_cons_zero, List.setIfInBounds_toArray, List.set_cons_zero, List.set_cons_succ]
          have hs4 := hb4.size
          replace f0 := f0.below hb4
          replace f2 := f2.kept hb4
          replace fp := fp.kept hb4
          obtain ⟨g1, hg1⟩ : ∃ g, g = W3.heap.size := ⟨_, rfl⟩
          rw [← hg1] at f1 ⊢
          have hg1a := Nat.le_of_eq hg1
          have hg1b := Nat.le_of_eq hg1.symm
          clear hg1
          have hg1' := f1.lt
          clear f0
          refine wpAnyH_take (i := 5) (v := ?_) rfl (by kernel_rfl) (by kernel_rfl) (by kernel_rfl) (fun _ _ _ h => h) (Or.inl ⟨by rfl, ?_⟩) hHeld ?_
          rotate_left
          · intro w' hSw; try dsimp only at hSw
            go_simp; try (with_reducible rfl)
          try simp only [Act.put, List.getElem_toArray, List.getElem_cons_succ, List.getElem_cons_zero, List.setIfInBounds_toArray, List.set_cons_zero, List.set_cons_succ]
          refine wpAnyH_ready (rs := [7]) (by kernel_rfl) (by simp) ?_
          refine AllReadyH.cons rfl (fun K hK => ?_) AllReadyH.nil
          rw [if_pos (by rfl)]
          refine wp_store_blk 25 (.tmp 6) _ rfl _ _ [.slice (some ⟨g1, 0, none⟩) n n, .slice (some ⟨g2, 0, none⟩) n n] rfl rfl fp (by simp) (poolSize _ _) one2 ?_
          intro w9 h9 ht9
          replace h9 : Blk w9 gp 25 [.slice (some ⟨g1, 0, none⟩) n n, .slice (some ⟨g2, 0, none⟩) n n] := h9
          refine hK.out _ _ ⟨ht9.below hHeld.1 (by omega), hHeld.2.turned ht9 (by omega)⟩ (fun hHeld => ?_)
          clear hK K
          try simp only [Act.put, List.getElem_toArray, List.getElem_cons_succ, List.getElem_cons_zero, List.setIfInBounds_toArray, List.set_cons_zero, List.set_cons_succ]
          refine wpAnyH_done (by kernel_rfl) ?_ _
          refine NoPanic.normal ?_
          go_wp2_with fail
          go_meet
          case rel => exact ⟨gp, g1, g2, rfl, hHeld.1, h9, ⟨_, _, hHeld.2⟩, ⟨owns_of_blkI (by omega) (by simp) (by unfold maxLen; omega) (f1.turned ht9 (by omega)), owns_of_blkI (by omega) (by simp) (by unfold maxLen; omega) (f2.turned ht9 (by omega)), by omega, by omega, fun a b ha hb => by cases ha; cases hb; show g1 ≠ g2; omega⟩, by omega, by omega, by omega⟩
        refine AllReadyH.cons rfl (fun K hK => ?_) AllReadyH.nil
        go_simp
        refine hK.out _ _ ⟨bt hHeld.1 (below_alloc _ _), hHeld.2.alloc _⟩ (fun hHeld => ?_)
        clear hK K
        try simp only [Act.put, List.getElem_toArray, List.getElem_cons_succ, List.getElem_cons_zero, List.setIfInBounds_toArray, List.set_cons_zero, List.set_cons_succ]
        have hb2 := below_alloc W1 (.cells #[.slice none 0 0, .slice none 0 0] 25)
        have hs2 := hb2.size
        replace f0 := f0.below hb2
        have fp := Blk.new' W1 25 #[.slice none 0 0, .slice none 0 0]
        obtain ⟨gp, hgp⟩ : ∃ g, g = W1.heap.size := ⟨_, rfl⟩
        rw [← hgp] at fp ⊢
        have hgpa := Nat.le_of_eq hgp
        have hgpb := Nat.le_of_eq hgp.symm
        clear hgp
        have hgp' := fp.lt
        generalize W1.alloc (.cells #[.slice none 0 0, .slice none 0 0] 25) = W2 at *
        refine wpAnyH_ready (rs := [2, 4]) (by kernel_rfl) (by simp) ?_
        refine AllReadyH.cons rfl (fun K hK => ?_) ?_
        · go_simp
          refine (repeat_any g0 0 1 n (by omega) (by omega) _ f0).mono ?_
          rintro e W3 ⟨rfl, f1, hb3⟩
          try go_wp2_with fail
          refine hK.out _ _ ⟨bt hHeld.1 hb3, hHeld.2.kept hb3⟩ (fun hHeld => ?_)
          clear hK K
          try simp only [Act.put, List.getElem_toArray, List.getElem_cons_succ, List.getElem_cons_zero, List.setIfInBounds_toArray, List.set_cons_zero, List.set_cons_succ]
          have hs3 := hb3.size
          replace f0 := f0.below hb3
          replace fp := fp.kept hb3
          obtain ⟨g1, hg1⟩ : ∃ g, g = W2.heap.size := ⟨_, rfl⟩
          rw [← hg1] at f1 ⊢
          have hg1a := Nat.le_of_eq hg1
          have hg1b := Nat.le_of_eq hg1.symm
          clear hg1
          have hg1' := f1.lt
          clear f0
          refine wpAnyH_ready (rs := [4]) (by kernel_rfl) (by simp) ?_
          refine AllReadyH.cons rfl (fun K hK => ?_) AllReadyH.nil
          go_simp
          refine hK.out _ _ ⟨bt hHeld.1 (below_alloc _ _), hHeld.2.alloc _⟩ (fun hHeld => ?_)
          clear hK K
          try simp only [Act.put, List.getElem_toArray, List.getElem_cons_succ, List.getElem_cons_zero, List.setIfInBounds_toArray, List.set_cons_zero, List.set_cons_succ]
          have hb4 := below_alloc W3 (.cells (valsI (List.replicate n 0)).toArray 2)
          have hs4 := hb4.size
          replace f1 := f1.kept hb4
          replace fp := fp.kept hb4
          have f2 := Blk.new W3 2 (valsI (List.replicate n 0))
          obtain ⟨g2, hg2⟩ : ∃ g, g = W3.heap.size := ⟨_, rfl⟩
          rw [← hg2] at f2 ⊢
          have hg2a := Nat.le_of_eq hg2
          have hg2b := Nat.le_of_eq hg2.symm
          clear hg2
          have hg2' := f2.lt
          generalize W3.alloc (.cells (valsI (List.replicate n 0)).toArray 2) = W4 at *
          refine wpAnyH_take (i := 5) (v := ?_) rfl (by kernel_rfl) (by kernel_rfl) (by kernel_rfl) (fun _ _ _ h => h) (Or.inl ⟨by rfl, ?_⟩) hHeld ?_
          rotate_left
          · intro w' hSw; try dsimp only at hSw
            go_simp; try (with_reducible rfl)
          try simp only [Act.put, List.getElem_toArray, List.getElem_cons_succ, List.getElem_cons_zero, List.setIfInBounds_toArray, List.set_cons_zero, List.set_cons_succ]
          refine wpAnyH_ready (rs := [7]) (by kernel_rfl) (by simp) ?_
          refine AllReadyH.cons rfl (fun K hK => ?_) AllReadyH.nil
          rw [if_pos (by rfl)]
          refine wp_store_blk 25 (.tmp 6) _ rfl _ _ [.slice (some ⟨g1, 0, none⟩) n n, .slice (some ⟨g2, 0, none⟩) n n] rfl rfl fp (by simp) (poolSize _ _) one2 ?_
          intro w9 h9 ht9
          replace h9 : Blk w9 gp 25 [.slice (some ⟨g1, 0, none⟩) n n, .slice (some ⟨g2, 0, none⟩) n n] := h9
          refine hK.out _ _ ⟨ht9.below hHeld.1 (by omega), hHeld.2.turned ht9 (by omega)⟩ (fun hHeld => ?_)
          clear hK K
          try simp only [Act.put, List.getElem_toArray, List.getElem_cons_succ, List.getElem_cons_zero, List.setIfInBounds_toArray, List.set_cons_zero, List.set_cons_succ]
          refine wpAnyH_done (by kernel_rfl) ?_ _
          refine NoPanic.normal ?_
          go_wp2_with fail
          go_meet
          case rel => exact ⟨gp, g1, g2, rfl, hHeld.1, h9, ⟨_, _, hHeld.2⟩, ⟨owns_of_blkI (by omega) (by simp) (by unfold maxLen; omega) (f1.turned ht9 (by omega)), owns_of_blkI (by omega) (by simp) (by unfold maxLen; omega) (f2.turned ht9 (by omega)), by omega, by omega, fun a b ha hb => by cases ha; cases hb; show g1 ≠ g2; omega⟩, by omega, by omega, by omega⟩
        refine AllReadyH.cons rfl (fun K hK => ?_) AllReadyH.nil
        go_simp
        refine hK.out _ _ ⟨bt hHeld.1 (below_alloc _ _), hHeld.2.alloc _⟩ (fun hHeld => ?_)
        clear hK K
        try simp only [Act.put, List.getElem_toArray, List.getElem_cons_succ, List.getElem_cons_zero, List.setIfInBounds_toArray, List.set_cons_zero, List.set_cons_succ]
        have hb3 := below_alloc W2 (.cells (valsI (List.replicate n 0)).toArray 2)
        have hs3 := hb3.size
        replace f0 := f0.below hb3
        replace fp := fp.kept hb3
        have f2 := Blk.new W2 2 (valsI (List.replicate n 0))
        obtain ⟨g2, hg2⟩ : ∃ g, g = W2.heap.size := ⟨_, rfl⟩
        rw [← hg2] at f2 ⊢
        have hg2a := Nat.le_of_eq hg2
        have hg2b := Nat.le_of_eq hg2.symm
        clear hg2
        have hg2' := f2.lt
        generalize W2.alloc (.cells (valsI (List.replicate n 0)).toArray 2) = W3 at *
        refine wpAnyH_ready (rs := [2]) (by kernel_rfl) (by simp) ?_
        refine AllReadyH.cons rfl (fun K hK => ?_) AllReadyH.nil
        go_simp
        refine (repeat_any g0 0 1 n (by omega) (by omega) _ f0).mono ?_
        rintro e W4 ⟨rfl, f1, hb4⟩
        try go_wp2_with fail
        refine hK.out _ _ ⟨bt hHeld.1 hb4, hHeld.2.kept hb4⟩ (fun hHeld => ?_)
        clear hK K
        try simp only [Act.put, List.getElem_toArray, List.getElem_cons_succ, List.getElem_cons_zero, List.setIfInBounds_toArray, List.set_cons_zero, List.set_cons_succ]
        have hs4 := hb4.size
        replace f0 := f0.below hb4
        replace f2 := f2.kept hb4
        replace fp := fp.kept hb4
        obtain ⟨g1, hg1⟩ : ∃ g, g = W3.heap.size := ⟨_, rfl⟩
        rw [← hg1] at f1 ⊢
        have hg1a := Nat.le_of_eq hg1
        have hg1b := Nat.le_of_eq hg1.symm
        clear hg1
        have hg1' := f1.lt
        clear f0
        refine wpAnyH_take (i := 5) (v := ?_) rfl (by kernel_rfl) (by kernel_rfl) (by kernel_rfl) (fun _ _ _ h => h) (Or.inl ⟨by rfl, ?_⟩) hHeld ?_
        rotate_left
        · intro w' hSw; try dsimp only at hSw
          go_simp; try (with_reducible rfl)
        try simp only [Act.put, List.getElem_toArray, List.getElem_cons_succ, List.getElem_cons_zero, List.setIfInBounds_toArray, List.set_cons_zero, List.set_cons_succ]
        refine wpAnyH_ready (rs := [7]) (by kernel_rfl) (by simp) ?_
        refine AllReadyH.cons rfl (fun K hK => ?_) AllReadyH.nil
        rw [if_pos (by rfl)]
        refine wp_store_blk 25 (.tmp 6) _ rfl _ _ [.slice (some ⟨g1, 0, none⟩) n n, .slice (some ⟨g2, 0, none⟩) n n] rfl rfl fp (by simp) (poolSize _ _) one2 ?_
        intro w9 h9 ht9
        replace h9 : Blk w9 gp 25 [.slice (some ⟨g1, 0, none⟩) n n, .slice (some ⟨g2, 0, none⟩) n n] := h9
        refine hK.out _ _ ⟨ht9.below hHeld.1 (by omega), hHeld.2.turned ht9 (by omega)⟩ (fun hHeld => ?_)
        clear hK K
        try simp only [Act.put, List.getElem_toArray, List.getElem_cons_succ, List.getElem_cons_zero, List.setIfInBounds_toArray, List.set_cons_zero, List.set_cons_succ]
        refine wpAnyH_done (by kernel_rfl) ?_ _
        refine NoPanic.normal ?_
        go_wp2_with fail
        go_meet
        case rel => exact ⟨gp, g1, g2, rfl, hHeld.1, h9, ⟨_, _, hHeld.2⟩, ⟨owns_of_blkI (by omega) (by simp) (by unfold maxLen; omega) (f1.turned ht9 (by omega)), owns_of_blkI (by omega) (by simp) (by unfold maxLen; omega) (f2.turned ht9 (by omega)), by omega, by omega, fun a b ha hb => by cases ha; cases hb; show g1 ≠ g2; omega⟩, by omega, by omega, by omega⟩
      refine AllReadyH.cons rfl (fun K hK => ?_) ?_
      · go_simp
        refine hK.out _ _ ⟨bt hHeld.1 (below_alloc _ _), hHeld.2.alloc _⟩ (fun hHeld => ?_)
        clear hK K
        try simp only [Act.put, List.getElem_toArray, List.getElem_cons_succ, List.getElem_cons_zero, List.setIfInBounds_toArray, List.set_cons_zero, List.set_cons_succ]
        have hb1 := below_alloc W0 (.cells (valsI (List.replicate n 0)).toArray 2)
        have hs1 := hb1.size
        have f2 := Blk.new W0 2 (valsI (List.replicate n 0))
        obtain ⟨g2, hg2⟩ : ∃ g, g = W0.heap.size := ⟨_, rfl⟩
        rw [← hg2] at f2 ⊢
        have hg2a := Nat.le_of_eq hg2
        have hg2b := Nat.le_of_eq hg2.symm
        clear hg2
        have hg2' := f2.lt
        generalize W0.alloc (.cells (valsI (List.replicate n 0)).toArray 2) = W1 at *
        refine wpAnyH_ready (rs := [0, 6]) (by kernel_rfl) (by simp) ?_
        refine AllReadyH.cons rfl (fun K hK => ?_) ?_
        · go_simp
          refine hK.out _ _ ⟨bt hHeld.1 (below_alloc _ _), hHeld.2.alloc _⟩ (fun hHeld => ?_)
          clear hK K
          try simp only [Act.put, List.getElem_toArray, List.getElem_cons_succ, List.getElem_cons_zero, List.setIfInBounds_toArray, List.set_cons_zero, List.set_cons_succ]
          have hb2 := below_alloc W1 (.cells #[.int .i64 1] 3)
          have hs2 := hb2.size
          replace f2 := f2.kept hb2
          have f0 := in_one W1
          obtain ⟨g0, hg0⟩ : ∃ g, g = W1.heap.size := ⟨_, rfl⟩
          rw [← hg0] at f0 ⊢
          have hg0a := Nat.le_of_eq hg0
          have hg0b := Nat.le_of_eq hg0.symm
          clear hg0
          generalize W1.alloc (.cells #[.int .i64 1] 3) = W2 at *
          refine wpAnyH_ready (rs := [2, 6]) (by kernel_rfl) (by simp) ?_
          refine AllReadyH.cons rfl (fun K hK => ?_) ?_
          · go_simp
            refine (repeat_any g0 0 1 n (by omega) (by omega) _ f0).mono ?_
            rintro e W3 ⟨rfl, f1, hb3⟩
            try go_wp2_with fail
            refine hK.out _ _ ⟨bt hHeld.1 hb3, hHeld.2.kept hb3⟩ (fun hHeld => ?_)
            clear hK K
            try simp only [Act.put, List.getElem_toArray, List.getElem_cons_succ, List.getElem_cons_zero, List.setIfInBounds_toArray, List.set_cons_zero, List.set_cons_succ]
            have hs3 := hb3.size
            replace f0 := f0.below hb3
            replace f2 := f2.kept hb3
            obtain ⟨g1, hg1⟩ : ∃ g, g = W2.heap.size := ⟨_, rfl⟩
            rw [← hg1] at f1 ⊢
            have hg1a := Nat.le_of_eq hg1
            have hg1b := Nat.le_of_eq hg1.symm
            clear hg1
            have hg1' := f1.lt
            clear f0
            refine wpAnyH_take (i := 5) (v := ?_) rfl (by kernel_rfl) (by kernel_rfl) (by kernel_rfl) (fun _ _ _ h => h) (Or.inl ⟨by rfl, ?_⟩) hHeld ?_
            rotate_left
            · intro w' hSw; try dsimp only at hSw
              go_simp; try (with_reducible rfl)
            try simp only [Act.put, List.getElem_toArray, List.getElem_cons_succ, List.getElem_cons_zero, List.setIfInBounds_toArray, List.set_cons_zero, List.set_cons_succ]
            refine wpAnyH_ready (rs := [6]) (by kernel_rfl) (by simp) ?_
            refine AllReadyH.cons rfl (fun K hK => ?_) AllReadyH.nil
            go_simp
            refine hK.out _ _ ⟨bt hHeld.1 (below_alloc _ _), hHeld.2.alloc _⟩ (fun hHeld => ?_)
            clear hK K
            try simp only [Act.put, List.getElem_toArray, List.getElem_cons_succ, List.getElem_cons_zero, List.setIfInBounds_toArray, List.set_cons_zero, List.set_cons_succ]
            have hb4 := below_alloc W3 (.cells #[.slice none 0 0, .slice none 0 0] 25)
            have hs4 := hb4.size
            replace f1 := f1.kept hb4
            replace f2 := f2.kept hb4
            have fp := Blk.new' W3 25 #[.slice none 0 0, .slice none 0 0]
            obtain ⟨gp, hgp⟩ : ∃ g, g = W3.heap.size := ⟨_, rfl⟩
            rw [← hgp] at fp ⊢
            have hgpa := Nat.le_of_eq hgp
            have hgpb := Nat.le_of_eq hgp.symm
            clear hgp
            have hgp' := fp.lt
            generalize W3.alloc (.cells #[.slice none 0 0, .slice none 0 0] 25) = W4 at *
            refine wpAnyH_ready (rs := [7]) (by kernel_rfl) (by simp) ?_
            refine AllReadyH.cons rfl (fun K hK => ?_) AllReadyH.nil
            rw [if_pos (by rfl)]
            refine wp_store_blk 25 (.tmp 6) _ rfl _ _ [.slice (some ⟨g1, 0, none⟩) n n, .slice (some ⟨g2, 0, none⟩) n n] rfl rfl fp (by simp) (poolSize _ _) one2 ?_
            intro w9 h9 ht9
            replace h9 : Blk w9 gp 25 [.slice (some ⟨g1, 0, none⟩) n n, .slice (some ⟨g2, 0, none⟩) n n] := h9
            refine hK.out _ _ ⟨ht9.below hHeld.1 (by omega), hHeld.2.turned ht9 (by omega)⟩ (fun hHeld => ?_)
            clear hK K
            try simp only [Act.put, List.getElem_toArray, List.getElem_cons_succ, List.getElem_cons_zero, List.setIfInBounds_toArray, List.set_cons_zero, List.set_cons_succ]
            refine wpAnyH_done (by kernel_rfl) ?_ _
            refine NoPanic.normal ?_
            go_wp2_with fail
            go_meet
            case rel => exact ⟨gp, g1, g2, rfl, hHeld.1, h9, ⟨_, _, hHeld.2⟩, ⟨owns_of_blkI (by omega) (by simp) (by unfold maxLen; omega) (f1.turned ht9 (by omega)), owns_of_blkI (by omega) (by simp) (by unfold maxLen; omega) (f2.turned ht9 (by omega)), by omega, by omega, fun a b ha hb => by cases ha; cases hb; show g1 ≠ g2; omega⟩, by omega, by omega, by omega⟩
          refine AllReadyH.cons rfl (fun K hK => ?_) AllReadyH.nil
          go_simp
          refine hK.out _ _ ⟨bt hHeld.1 (below_alloc _ _), hHeld.2.alloc _⟩ (fun hHeld => ?_)
          clear hK K
          try simp only [Act.put, List.getElem_toArray, List.getElem_cons_succ, List.getElem_cons_zero, List.setIfInBounds_toArray, List.set_cons_zero, List.set_cons_succ]
          have hb3 := below_alloc W2 (.cells #[.slice none 0 0, .slice none 0 0] 25)
          have hs3 := hb3.size
          replace f0 := f0.below hb3
          replace f2 := f2.kept hb3
          have fp := Blk.new' W2 25 #[.slice none 0 0, .slice none 0 0]
          obtain ⟨gp, hgp⟩ : ∃ g, g = W2.heap.size := ⟨_, rfl⟩
          rw [← hgp] at fp ⊢
          have hgpa := Nat.le_of_eq hgp
          have hgpb := Nat.le_of_eq hgp.symm
          clear hgp
          have hgp' := fp.lt
          generalize W2.alloc (.cells #[.slice none 0 0, .slice none 0 0] 25) = W3 at *
          refine wpAnyH_ready (rs := [2]) (by kernel_rfl) (by simp) ?_
          refine AllReadyH.cons rfl (fun K hK => ?_) AllReadyH.nil
          go_simp
          refine (repeat_any g0 0 1 n (by omega) (by omega) _ f0).mono ?_
          rintro e W4 ⟨rfl, f1, hb4⟩
          try go_wp2_with fail
          refine hK.out _ _ ⟨bt hHeld.1 hb4, hHeld.2.kept hb4⟩ (fun hHeld => ?_)
          clear hK K
          try simp only [Act.put, List.getElem_toArray, List.getElem_cons_succ, List.getElem_cons_zero, List.setIfInBounds_toArray, List.set_cons_zero, List.set_cons_succ]
          have hs4 := hb4.size
          replace f0 := f0.below hb4
          replace f2 := f2.kept hb4
          replace fp := fp.kept hb4
          obtain ⟨g1, hg1⟩ : ∃ g, g = W3.heap.size := ⟨_, rfl⟩
          rw [← hg1] at f1 ⊢
          have hg1a := Nat.le_of_eq hg1
          have hg1b := Nat.le_of_eq hg1.symm
          clear hg1
          have hg1' := f1.lt
          clear f0
          refine wpAnyH_take (i := 5) (v := ?_) rfl (by kernel_rfl) (by kernel_rfl) (by kernel_rfl) (fun _ _ _ h => h) (Or.inl ⟨by rfl, ?_⟩) hHeld ?_
          rotate_left
          · intro w' hSw; try dsimp only at hSw
            go_simp; try (with_reducible rfl)
          try simp only [Act.put, List.getElem_toArray, List.getElem_cons_succ, List.getElem_cons_zero, List.setIfInBounds_toArray, List.set_cons_zero, List.set_cons_succ]
          refine wpAnyH_ready (rs := [7]) (by kernel_rfl) (by simp) ?_
          refine AllReadyH.cons rfl (fun K hK => ?_) AllReadyH.nil
          rw [if_pos (by rfl)]
          refine wp_store_blk 25 (.tmp 6) _ rfl _ _ [.slice (some ⟨g1, 0, none⟩) n n, .slice (some ⟨g2, 0, none⟩) n n] rfl rfl fp (by simp) (poolSize _ _) one2 ?_
          intro w9 h9 ht9
          replace h9 : Blk w9 gp 25 [.slice (some ⟨g1, 0, none⟩) n n, .slice (some ⟨g2, 0, none⟩) n n] := h9
          refine hK.out _ _ ⟨ht9.below hHeld.1 (by omega), hHeld.2.turned ht9 (by omega)⟩ (fun hHeld => ?_)
          clear hK K
          try simp only [Act.put, List.getElem_toArray, List.getElem_cons_succ, List.getElem_cons_zero, List.setIfInBounds_toArray, List.set_cons_zero, List.set_cons_succ]
          refine wpAnyH_done (by kernel_rfl) ?_ _
          refine NoPanic.normal ?_
          go_wp2_with fail
          go_meet
          case rel => exact ⟨gp, g1, g2, rfl, hHeld.1, h9, ⟨_, _, hHeld.2⟩, ⟨owns_of_blkI (by omega) (by simp) (by unfold maxLen; omega) (f1.turned ht9 (by omega)), owns_of_blkI (by omega) (by simp) (by unfold maxLen; omega) (f2.turned ht9 (by omega)), by omega, by omega, fun a b ha hb => by cases ha; cases hb; show g1 ≠ g2; omega⟩, by omega, by omega, by omega⟩
        refine AllReadyH.cons rfl (fun K hK => ?_) AllReadyH.nil
        go_simp
        refine hK.out _ _ ⟨bt hHeld.1 (below_alloc _ _), hHeld.2.alloc _⟩ (fun hHeld => ?_)
        clear hK K
        try simp only [Act.put, List.getElem_toArray, List.getElem_cons_succ, List.getElem_cons_zero, List.setIfInBounds_toArray, List.set_cons_zero, List.set_cons_succ]
        have hb2 := below_alloc W1 (.cells #[.slice none 0 0, .slice none 0 0] 25)
        have hs2 := hb2.size
        replace f2 := f2.kept hb2
        have fp := Blk.new' W1 25 #[.slice none 0 0, .slice none 0 0]
        obtain ⟨gp, hgp⟩ : ∃ g, g = W1.heap.size := ⟨_, rfl⟩
        rw [← hgp] at fp ⊢
        have hgpa := Nat.le_of_eq hgp
        have hgpb := Nat.le_of_eq hgp.symm
        clear hgp
        have hgp' := fp.lt
        generalize W1.alloc (.cells #[.slice none 0 0, .slice none 0 0] 25) = W2 at *
        refine wpAnyH_ready (rs := [0]) (by kernel_rfl) (by simp) ?_
        refine AllReadyH.cons rfl (fun K hK => ?_) AllReadyH.nil
        go_simp
        refine hK.out _ _ ⟨bt hHeld.1 (below_alloc _ _), hHeld.2.alloc _⟩ (fun hHeld => ?_)
        clear hK K
        try simp only [Act.put, List.getElem_toArray, List.getElem_cons_succ, List.getElem_cons_zero, List.setIfInBounds_toArray, List.set_cons_zero, List.set_cons_succ]
        have hb3 := below_alloc W2 (.cells #[.int .i64 1] 3)
        have hs3 := hb3.size
        replace f2 := f2.kept hb3
        replace fp := fp.kept hb3
        have f0 := in_one W2
        obtain ⟨g0, hg0⟩ : ∃ g, g = W2.heap.size := ⟨_, rfl⟩
        rw [← hg0] at f0 ⊢
        have hg0a := Nat.le_of_eq hg0
        have hg0b := Nat.le_of_eq hg0.symm
        clear hg0
        generalize W2.alloc (.cells #[.int .i64 1] 3) = W3 at *
        refine wpAnyH_ready (rs := [2]) (by kernel_rfl) (by simp) ?_
        refine AllReadyH.cons rfl (fun K hK => ?_) AllReadyH.nil
        go_simp
        refine (repeat_any g0 0 1 n (by omega) (by omega) _ f0).mono ?_
        rintro e W4 ⟨rfl, f1, hb4⟩
        try go_wp2_with fail
        refine hK.out _ _ ⟨bt hHeld.1 hb4, hHeld.2.kept hb4⟩ (fun hHeld => ?_)
        clear hK K
        try simp only [Act.put, List.getElem_toArray, List.getElem_cons_succ, List.getElem_cons_zero, List.setIfInBounds_toArray, List.set_cons_zero, List.set_cons_succ]
        have hs4 := hb4.size
        replace f0 := f0.below hb4
        replace f2 := f2.kept hb4
        replace fp := fp.kept hb4
        obtain ⟨g1, hg1⟩ : ∃ g, g = W3.heap.size := ⟨_, rfl⟩
        rw [← hg1] at f1 ⊢
        have hg1a := Nat.le_of_eq hg1
        have hg1b := Nat.le_of_eq hg1.symm
        clear hg1
        have hg1' := f1.lt
        clear f0
        refine wpAnyH_take (i := 5) (v := ?_) rfl (by kernel_rfl) (by kernel_rfl) (by kernel_rfl) (fun _ _ _ h => h) (Or.inl ⟨by rfl, ?_⟩) hHeld ?_
        rotate_left
        · intro w' hSw; try dsimp only at hSw
          go_simp; try (with_reducible rfl)
        try simp only [Act.put, List.getElem_toArray, List.getElem_cons_succ, List.getElem_cons_zero, List.setIfInBounds_toArray, List.set_cons_zero, List.set_cons_succ]
        refine wpAnyH_ready (rs := [7]) (by kernel_rfl) (by simp) ?_
        refine AllReadyH.cons rfl (fun K hK => ?_) AllReadyH.nil
        rw [if_pos (by rfl)]
        refine wp_store_blk 25 (.tmp 6) _ rfl _ _ [.slice (some ⟨g1, 0, none⟩) n n, .slice (some ⟨g2, 0, none⟩) n n] rfl rfl fp (by simp) (poolSize _ _) one2 ?_
        intro w9 h9 ht9
        replace h9 : Blk w9 gp 25 [.slice (some ⟨g1, 0, none⟩) n n, .slice (some ⟨g2, 0, none⟩) n n] := h9
        refine hK.out _ _ ⟨ht9.below hHeld.1 (by omega), hHeld.2.turned ht9 (by omega)⟩ (fun hHeld => ?_)
        clear hK K
        try simp only [Act.put, List.getElem_toArray, List.getElem_cons_succ, List.getElem_cons_zero, List.setIfInBounds_toArray, List.set_cons_zero, List.set_cons_succ]
        refine wpAnyH_done (by kernel_rfl) ?_ _
        refine NoPanic.normal ?_
        go_wp2_with fail
        go_meet
        case rel => exact ⟨gp, g1, g2, rfl, hHeld.1, h9, ⟨_, _, hHeld.2⟩, ⟨owns_of_blkI (by omega) (by simp) (by unfold maxLen; omega) (f1.turned ht9 (by omega)), owns_of_blkI (by omega) (by simp) (by unfold maxLen; omega) (f2.turned ht9 (by omega)), by omega, by omega, fun a b ha hb => by cases ha; cases hb; show g1 ≠ g2; omega⟩, by omega, by omega, by omega⟩
      refine AllReadyH.cons rfl (fun K hK => ?_) AllReadyH.nil
      go_simp
      refine hK.out _ _ ⟨bt hHeld.1 (below_alloc _ _), hHeld.2.alloc _⟩ (fun hHeld => ?_)
      clear hK K
      try simp only [Act.put, List.getElem_toArray, List.getElem_cons_succ, List.getElem_cons_zero, List.setIfInBounds_toArray, List.set_cons_zero, List.set_cons_succ]
      have hb1 := below_alloc W0 (.cells #[.slice none 0 0, .slice none 0 0] 25)
      have hs1 := hb1.size
      have fp := Blk.new' W0 25 #[.slice none 0 0, .slice none 0 0]
      obtain ⟨gp, hgp⟩ : ∃ g, g = W0.heap.size := ⟨_, rfl⟩
      rw [← hgp] at fp ⊢
      have hgpa := Nat.le_of_eq hgp
      have hgpb := Nat.le_of_eq hgp.symm
      clear hgp
      have hgp' := fp.lt
      generalize W0.alloc (.cells #[.slice none 0 0, .slice none 0 0] 25) = W1 at *
      refine wpAnyH_ready (rs := [0, 4]) (by kernel_rfl) (by simp) ?_
      refine AllReadyH.cons rfl (fun K hK => ?_) ?_
      · go_simp
        refine hK.out _ _ ⟨bt hHeld.1 (below_alloc _ _), hHeld.2.alloc _⟩ (fun hHeld => ?_)
        clear hK K
        try simp only [Act.put, List.getElem_toArray, List.getElem_cons_succ, List.getElem_cons_zero, List.setIfInBounds_toArray, List.set_cons_zero, List.set_cons_succ]
        have hb2 := below_alloc W1 (.cells #[.int .i64 1] 3)
        have hs2 := hb2.size
        replace fp := fp.kept hb2
        have f0 := in_one W1
        obtain ⟨g0, hg0⟩ : ∃ g, g = W1.heap.size := ⟨_, rfl⟩
        rw [← hg0] at f0 ⊢
        have hg0a := Nat.le_of_eq hg0
        have hg0b := Nat.le_of_eq hg0.symm
        clear hg0
        generalize W1.alloc (.cells #[.int .i64 1] 3) = W2 at *
        refine wpAnyH_ready (rs := [2, 4]) (by kernel_rfl) (by simp) ?_
        refine AllReadyH.cons rfl (fun K hK => ?_) ?_
        · go_simp
          refine (repeat_any g0 0 1 n (by omega) (by omega) _ f0).mono ?_
          rintro e W3 ⟨rfl, f1, hb3⟩
          try go_wp2_with fail
          refine hK.out _ _ ⟨bt hHeld.1 hb3, hHeld.2.kept hb3⟩ (fun hHeld => ?_)
          clear hK K
          try simp only [Act.put, List.getElem_toArray, List.getElem_cons_succ, List.getElem_cons_zero, List.setIfInBounds_toArray, List.set_cons_zero, List.set_cons_succ]
          have hs3 := hb3.size
          replace f0 := f0.below hb3
          replace fp := fp.kept hb3
          obtain ⟨g1, hg1⟩ : ∃ g, g = W2.heap.size := ⟨_, rfl⟩
          rw [← hg1] at f1 ⊢
          have hg1a := Nat.le_of_eq hg1
          have hg1b := Nat.le_of_eq hg1.symm
          clear hg1
          have hg1' := f1.lt
          clear f0
          refine wpAnyH_ready (rs := [4]) (by kernel_rfl) (by simp) ?_
          refine AllReadyH.cons rfl (fun K hK => ?_) AllReadyH.nil
          go_simp
          refine hK.out _ _ ⟨bt hHeld.1 (below_alloc _ _), hHeld.2.alloc _⟩ (fun hHeld => ?_)
          clear hK K
          try simp only [Act.put, List.getElem_toArray, List.getElem_cons_succ, List.getElem_cons_zero, List.setIfInBounds_toArray, List.set_cons_zero, List.set_cons_succ]
          have hb4 := below_alloc W3 (.cells (valsI (List.replicate n 0)).toArray 2)
          have hs4 := hb4.size
          replace f1 := f1.kept hb4
          replace fp := fp.kept hb4
          have f2 := Blk.new W3 2 (valsI (List.replicate n 0))
          obtain ⟨g2, hg2⟩ : ∃ g, g = W3.heap.size := ⟨_, rfl⟩
          rw [← hg2] at f2 ⊢
          have hg2a := Nat.le_of_eq hg2
          have hg2b := Nat.le_of_eq hg2.symm
          clear hg2
          have hg2' := f2.lt
          generalize W3.alloc (.cells (valsI (List.replicate n 0)).toArray 2) = W4 at *
          refine wpAnyH_take (i := 5) (v := ?_) rfl (by kernel_rfl) (by kernel_rfl) (by kernel_rfl) (fun _ _ _ h => h) (Or.inl ⟨by rfl, ?_⟩) hHeld ?_
          rotate_left
          · intro w' hSw; try dsimp only at hSw
            go_simp; try (with_reducible rfl)
          try simp only [Act.put, List.getElem_toArray, List.getElem_cons_succ, List.getElem_cons_zero, List.setIfInBounds_toArray, List.set_cons_zero, List.set_cons_succ]
          refine wpAnyH_ready (rs := [7]) (by kernel_rfl) (by simp) ?_
          refine AllReadyH.cons rfl (fun K hK => ?_) AllReadyH.nil
          rw [if_pos (by rfl)]
          refine wp_store_blk 25 (.tmp 6) _ rfl _ _ [.slice (some ⟨g1, 0, none⟩) n n, .slice (some ⟨g2, 0, none⟩) n n] rfl rfl fp (by simp) (poolSize _ _) one2 ?_
          intro w9 h9 ht9
          replace h9 : Blk w9 gp 25 [.slice (some ⟨g1, 0, none⟩) n n, .slice (some ⟨g2, 0, none⟩) n n] := h9
          refine hK.out _ _ ⟨ht9.below hHeld.1 (by omega), hHeld.2.turned ht9 (by omega)⟩ (fun hHeld => ?_)
          clear hK K
          try simp only [Act.put, List.getElem_toArray, List.getElem_cons_succ, List.getElem_cons_zero, List.setIfInBounds_toArray, List.set_cons_zero, List.set_cons_succ]
          refine wpAnyH_done (by kernel_rfl) ?_ _
          refine NoPanic.normal ?_
          go_wp2_with fail
          go_meet
          case rel => exact ⟨gp, g1, g2, rfl, hHeld.1, h9, ⟨_, _, hHeld.2⟩, ⟨owns_of_blkI (by omega) (by simp) (by unfold maxLen; omega) (f1.turned ht9 (by omega)), owns_of_blkI (by omega) (by simp) (by unfold maxLen; omega) (f2.turned ht9 (by omega)), by omega, by omega, fun a b ha hb => by cases ha; cases hb; show g1 ≠ g2; omega⟩, by omega, by omega, by omega⟩
        refine AllReadyH.cons rfl (fun K hK => ?_) AllReadyH.nil
        go_simp
        refine hK.out _ _ ⟨bt hHeld.1 (below_alloc _ _), hHeld.2.alloc _⟩ (fun hHeld => ?_)
        clear hK K
        try simp only [Act.put, List.getElem_toArray, List.getElem_cons_succ, List.getElem_cons_zero, List.setIfInBounds_toArray, List.set_cons_zero, List.set_cons_succ]
        have hb3 := below_alloc W2 (.cells (valsI (List.replicate n 0)).toArray 2)
        have hs3 := hb3.size
        replace f0 := f0.below hb3
        replace fp := fp.kept hb3
        have f2 := Blk.new W2 2 (valsI (List.replicate n 0))
        obtain ⟨g2, hg2⟩ : ∃ g, g = W2.heap.size := ⟨_, rfl⟩
        rw [← hg2] at f2 ⊢
        have hg2a := Nat.le_of_eq hg2
        have hg2b := Nat.le_of_eq hg2.symm
        clear hg2
        have hg2' := f2.lt
        generalize W2.alloc (.cells (valsI (List.replicate n 0)).toArray 2) = W3 at *
        refine wpAnyH_ready (rs := [2]) (by kernel_rfl) (by simp) ?_
        refine AllReadyH.cons rfl (fun K hK => ?_) AllReadyH.nil
        go_simp
        refine (repeat_any g0 0 1 n (by omega) (by omega) _ f0).mono ?_
        rintro e W4 ⟨rfl, f1, hb4⟩
        try go_wp2_with fail
        refine hK.out _ _ ⟨bt hHeld.1 hb4, hHeld.2.kept hb4⟩ (fun hHeld => ?_)
        clear hK K
        try simp only [Act.put, List.getElem_toArray, List.getElem_cons_succ, List.getElem_cons_zero, List.setIfInBounds_toArray, List.set_cons_zero, List.set_cons_succ]
        have hs4 := hb4.size
        replace f0 := f0.below hb4
        replace f2 := f2.kept hb4
        replace fp := fp.kept hb4
        obtain ⟨g1, hg1⟩ : ∃ g, g = W3.heap.size := ⟨_, rfl⟩
        rw [← hg1] at f1 ⊢
        have hg1a := Nat.le_of_eq hg1
        have hg1b := Nat.le_of_eq hg1.symm
        clear hg1
        have hg1' := f1.lt
        clear f0
        refine wpAnyH_take (i := 5) (v := ?_) rfl (by kernel_rfl) (by kernel_rfl) (by kernel_rfl) (fun _ _ _ h => h) (Or.inl ⟨by rfl, ?_⟩) hHeld ?_
        rotate_left
        · intro w' hSw; try dsimp only at hSw
          go_simp; try (with_reducible rfl)
        try simp only [Act.put, List.getElem_toArray, List.getElem_cons_succ, List.getElem_cons_zero, List.setIfInBounds_toArray, List.set_cons_zero, List.set_cons_succ]
        refine wpAnyH_ready (rs := [7]) (by kernel_rfl) (by simp) ?_
        refine AllReadyH.cons rfl (fun K hK => ?_) AllReadyH.nil
        rw [if_pos (by rfl)]
        refine wp_store_blk 25 (.tmp 6) _ rfl _ _ [.slice (some ⟨g1, 0, none⟩) n n, .slice (some ⟨g2, 0, none⟩) n n] rfl rfl fp (by simp) (poolSize _ _) one2 ?_
        intro w9 h9 ht9
        replace h9 : Blk w9 gp 25 [.slice (some ⟨g1, 0, none⟩) n n, .slice (some ⟨g2, 0, none⟩) n n] := h9
        refine hK.out _ _ ⟨ht9.below hHeld.1 (by omega), hHeld.2.turned ht9 (by omega)⟩ (fun hHeld => ?_)
        clear hK K
        try simp only [Act.put, List.getElem_toArray, List.getElem_cons_succ, List.getElem_cons_zero, List.setIfInBounds_toArray, List.set_cons_zero, List.set_cons_succ]
        refine wpAnyH_done (by kernel_rfl) ?_ _
        refine NoPanic.normal ?_
        go_wp2_with fail
        go_meet
        case rel => exact ⟨gp, g1, g2, rfl, hHeld.1, h9, ⟨_, _, hHeld.2⟩, ⟨owns_of_blkI (by omega) (by simp) (by unfold maxLen; omega) (f1.turned ht9 (by omega)), owns_of_blkI (by omega) (by simp) (by unfold maxLen; omega) (f2.turned ht9 (by omega)), by omega, by omega, fun a b ha hb => by cases ha; cases hb; show g1 ≠ g2; omega⟩, by omega, by omega, by omega⟩
      refine AllReadyH.cons rfl (fun K hK => ?_) AllReadyH.nil
      go_simp
      refine hK.out _ _ ⟨bt hHeld.1 (below_alloc _ _), hHeld.2.alloc _⟩ (fun hHeld => ?_)
      clear hK K
      try simp only [Act.put, List.getElem_toArray, List.getElem_cons_succ, List.getElem_cons_zero, List.setIfInBounds_toArray, List.set_cons_zero, List.set_cons_succ]
      have hb2 := below_alloc W1 (.cells (valsI (List.replicate n 0)).toArray 2)
      have hs2 := hb2.size
      replace fp := fp.kept hb2
      have f2 := Blk.new W1 2 (valsI (List.replicate n 0))
      obtain ⟨g2, hg2⟩ : ∃ g, g = W1.heap.size := ⟨_, rfl⟩
      rw [← hg2] at f2 ⊢
      have hg2a := Nat.le_of_eq hg2
      have hg2b := Nat.le_of_eq hg2.symm
      clear hg2
      have hg2' := f2.lt
      generalize W1.alloc (.cells (valsI (List.replicate n 0)).toArray 2) = W2 at *
      refine wpAnyH_ready (rs := [0]) (by kernel_rfl) (by simp) ?_
      refine AllReadyH.cons rfl (fun K hK => ?_) AllReadyH.nil
      go_simp
      refine hK.out _ _ ⟨bt hHeld.1 (below_alloc _ _), hHeld.2.alloc _⟩ (fun hHeld => ?_)
      clear hK K
      try simp only [Act.put, List.getElem_toArray, List.getElem_cons_succ, List.getElem_cons_zero, List.setIfInBounds_toArray, List.set_cons_zero, List.set_cons_succ]
      have hb3 := below_alloc W2 (.cells #[.int .i64 1] 3)
      have hs3 := hb3.size
      replace f2 := f2.kept hb3
      replace fp := fp.kept hb3
      have f0 := in_one W2
      obtain ⟨g0, hg0⟩ : ∃ g, g = W2.heap.size := ⟨_, rfl⟩
      rw [← hg0] at f0 ⊢
      have hg0a := Nat.le_of_eq hg0
      have hg0b := Nat.le_of_eq hg0.symm
      clear hg0
      generalize W2.alloc (.cells #[.int .i64 1] 3) = W3 at *
      refine wpAnyH_ready (rs := [2]) (by kernel_rfl) (by simp) ?_
      refine AllReadyH.cons rfl (fun K hK => ?_) AllReadyH.nil
      go_simp
      refine (repeat_any g0 0 1 n (by omega) (by omega) _ f0).mono ?_
      rintro e W4 ⟨rfl, f1, hb4⟩
      try go_wp2_with fail
      refine hK.out _ _ ⟨bt hHeld.1 hb4, hHeld.2.kept hb4⟩ (fun hHeld => ?_)
      clear hK K
      try simp only [Act.put, List.getElem_toArray, List.getElem_cons_succ, List.getElem_cons_zero, List.setIfInBounds_toArray, List.set_cons_zero, List.set_cons_succ]
      have hs4 := hb4.size
      replace f0 := f0.below hb4
      replace f2 := f2.kept hb4
      replace fp := fp.kept hb4
      obtain ⟨g1, hg1⟩ : ∃ g, g = W3.heap.size := ⟨_, rfl⟩
      rw [← hg1] at f1 ⊢
      have hg1a := Nat.le_of_eq hg1
      have hg1b := Nat.le_of_eq hg1.symm
      clear hg1
      have hg1' := f1.lt
      clear f0
      refine wpAnyH_take (i := 5) (v := ?_) rfl (by kernel_rfl) (by kernel_rfl) (by kernel_rfl) (fun _ _ _ h => h) (Or.inl ⟨by rfl, ?_⟩) hHeld ?_
      rotate_left
      · intro w' hSw; try dsimp only at hSw
        go_simp; try (with_reducible rfl)
      try simp only [Act.put, List.getElem_toArray, List.getElem_cons_succ, List.getElem_cons_zero, List.setIfInBounds_toArray, List.set_cons_zero, List.set_cons_succ]
      refine wpAnyH_ready (rs := [7]) (by kernel_rfl) (by simp) ?_
      refine AllReadyH.cons rfl (fun K hK => ?_) AllReadyH.nil
      rw [if_pos (by rfl)]
      refine wp_store_blk 25 (.tmp 6) _ rfl _ _ [.slice (some ⟨g1, 0, none⟩) n n, .slice (some ⟨g2, 0, none⟩) n n] rfl rfl fp (by simp) (poolSize _ _) one2 ?_
      intro w9 h9 ht9
      replace h9 : Blk w9 gp 25 [.slice (some ⟨g1, 0, none⟩) n n, .slice (some ⟨g2, 0, none⟩) n n] := h9
      refine hK.out _ _ ⟨ht9.below hHeld.1 (by omega), hHeld.2.turned ht9 (by omega)⟩ (fun hHeld => ?_)
      clear hK K
      try simp only [Act.put, List.getElem_toArray, List.getElem_cons_succ, List.getElem_cons_zero, List.setIfInBounds_toArray, List.set_cons_zero, List.set_cons_succ]
      refine wpAnyH_done (by kernel_rfl) ?_ _
      refine NoPanic.normal ?_
      go_wp2_with fail
      go_meet
      case rel => exact ⟨gp, g1, g2, rfl, hHeld.1, h9, ⟨_, _, hHeld.2⟩, ⟨owns_of_blkI (by omega) (by simp) (by unfold maxLen; omega) (f1.turned ht9 (by omega)), owns_of_blkI (by omega) (by simp) (by unfold maxLen; omega) (f2.turned ht9 (by omega)), by omega, by omega, fun a b ha hb => by cases ha; cases hb; show g1 ≠ g2; omega⟩, by omega, by omega, by omega⟩
    case rest =>
      obtain ⟨gp, g1, g2, rfl, hN0⟩ := hcut
      clear res0 bel0 hmk
      have hN0' : NS w n gp g1 g2 (List.replicate n 1) wc := hN0
      go_wp2_with fail
      go_loopw [21] (fun i wr => ∃ (k : Nat) (R : List Int), k ≤ r ∧ i = .int .i64 k ∧ R.length = n ∧ badTo R (bad.drop k) = badTo (List.replicate n 1) bad ∧ NS w n gp g1 g2 R wr) (fun i _ => r - (intOf i).toNat)
      case atStart => exact ⟨0, _, Nat.zero_le _, rfl, by simp, by simp, hN0⟩
      case round =>
        obtain ⟨k, R, hk, rfl, hRl, hbad, hN⟩ := hrel
        have HRl : Hid (R.length = n) := hRl
        have HB : Hid (badTo R (bad.drop k) = badTo (List.replicate n 1) bad) := hbad
        clear hN0 hN0' hRl hbad
        obtain ⟨x, y, hres⟩ := hN.res
        have c0 := hN.box.cell' (i := 0) rfl
        have c1 := hN.box.cell' (i := 1) rfl
        by_cases hlt : k < r
        · obtain ⟨bl, ol, rfl, hbl, hcl⟩ := (hl.below hN.bel).at' (by omega)
          have fl := hcl k hlt
          have hk1 : (k : Int) < (r : Int) := by omega
          clear hcl
          have HC := badTo_cons (R := R) (bad := bad) (k := k) (by rw [HLl.out]; exact hlt)
          rw [HB.out] at HC
          have HC' : Hid _ := HC
          clear HC HB
          generalize eI bad k = b at *
          by_cases hib : 0 ≤ b ∧ b < (n : Int)
          · have HI : Hid ((decide (0 ≤ b) && decide (b < (n : Int))) = true) := by show _ = _; rw [decide_eq_true hib.1, decide_eq_true hib.2]; rfl
            obtain ⟨j, rfl⟩ : ∃ j : Nat, b = (j : Int) := ⟨b.toNat, by omega⟩
            have hj : j < n := by omega
            have hj1 : (j : Int) < (n : Int) := hib.2
            clear hib
            have HJ : Hid (isB R (j : Int) = true) := by show _ = _; rw [isB_iff, HRl.out]; omega
            by_cases h6 : eI R j = 6
            · have HF : Hid (badTo (List.replicate n 1) bad = none) := by show _ = _; rw [HC'.out, HJ.out, Int.toNat_natCast, decide_eq_false (fun h => h h6)]; rfl
              clear HC'
              go_wp2_with (first
                | (go_at_call 43; refine (has_any _ _ _ _ _ _ _ _ (by omega)).mono ?_; rintro e1 w3 ⟨rfl, hb3⟩; rw [HI.out]; have hN3 := hN.next hb3; have d0 := hN3.box.cell' (i := 0) rfl; have d1 := hN3.box.cell' (i := 1) rfl; obtain ⟨x3, y3, hres3⟩ := hN3.res; have fj3 := hN3.np.r.cellAt j (by omega); rw [valsI_get R j (by rw [HRl.out]; exact hj)] at fj3; rw [h6] at fj3)
                | (refine wpList_store_blk rfl 25 (.tmp 4) (.tmp 37) rfl _ _ [.slice none 0 0, .slice none 0 0] rfl rfl hres3 (by simp) (poolSize _ _) one2 ?_; intro w8 h8 ht8; replace h8 : Blk w8 w.heap.size 25 [.slice none 0 0, .slice none 0 0] := h8))
              rw [HS.out, HF.out]
              exact ret_poolE Try.results9 rfl h8 rfl rfl ⟨_, _, _, _, _, _, rfl, NewP.zero _ _, ht8.below hN3.bel (Nat.le_refl _)⟩
            · have HF : Hid (badTo (R.set j 6) (bad.drop (k + 1)) = badTo (List.replicate n 1) bad) := by show _ = _; rw [HC'.out, HJ.out, Int.toNat_natCast, decide_eq_true h6]; rfl
              clear HC'
              have h6b : (eI R j == 6) = false := by simpa using h6
              clear h6
              go_upto_region 9 with (go_at_call 43; refine (has_any _ _ _ _ _ _ _ _ (by omega)).mono ?_; rintro e1 w3 ⟨rfl, hb3⟩; rw [HI.out]; have hN3 := hN.next hb3; have d0 := hN3.box.cell' (i := 0) rfl; have d1 := hN3.box.cell' (i := 1) rfl; obtain ⟨x3, y3, hres3⟩ := hN3.res; have fj3 := hN3.np.r.cellAt j (by omega); rw [valsI_get R j (by rw [HRl.out]; exact hj)] at fj3)
              obtain ⟨hN4, f1, f2⟩ := hN3.set hj 6
              go_wp2_with fail
              go_roundw
              case rel => exact ⟨k + 1, R.set j 6, by omega, by go_num, by rw [List.length_set]; exact HRl.out, HF.out, hN4⟩
              case measure => simp [intOf]; omega
          · have HI : Hid ((decide (0 ≤ b) && decide (b < (n : Int))) = false) := by show _ = _; rw [Bool.and_eq_false_iff, decide_eq_false_iff_not, decide_eq_false_iff_not]; omega
            have HF : Hid (badTo (List.replicate n 1) bad = none) := by
              have : isB R b = false := by unfold isB; rw [HRl.out]; exact HI.out
              show _ = _; rw [HC'.out, this]; rfl
            clear HC' hib
            go_wp2_with (first
              | (go_at_call 43; refine (has_any _ _ _ _ _ _ _ _ (by omega)).mono ?_; rintro e1 w3 ⟨rfl, hb3⟩; rw [HI.out]; have hN3 := hN.next hb3; have d0 := hN3.box.cell' (i := 0) rfl; have d1 := hN3.box.cell' (i := 1) rfl; obtain ⟨x3, y3, hres3⟩ := hN3.res)
              | (refine wpList_store_blk rfl 25 (.tmp 4) (.tmp 37) rfl _ _ [.slice none 0 0, .slice none 0 0] rfl rfl hres3 (by simp) (poolSize _ _) one2 ?_; intro w8 h8 ht8; replace h8 : Blk w8 w.heap.size 25 [.slice none 0 0, .slice none 0 0] := h8))
            rw [HS.out, HF.out]
            exact ret_poolE Try.results9 rfl h8 rfl rfl ⟨_, _, _, _, _, _, rfl, NewP.zero _ _, ht8.below hN3.bel (Nat.le_refl _)⟩
        · have hkr : k = r := by omega
          subst hkr
          have HF : Hid (badTo (List.replicate n 1) bad = some R) := by show _ = _; rw [← HB.out, List.drop_of_length_le (by rw [HLl.out]; exact Nat.le_refl _)]; rfl
          go_wp2_with (refine wpList_store_blk rfl 25 (.tmp 4) (.tmp 43) rfl _ _ [.slice (some ⟨g1, 0, none⟩) n n, .slice (some ⟨g2, 0, none⟩) n n] rfl rfl hres (by simp) (poolSize _ _) one2 ?_; intro w8 h8 ht8; replace h8 : Blk w8 w.heap.size 25 [.slice (some ⟨g1, 0, none⟩) n n, .slice (some ⟨g2, 0, none⟩) n n] := h8)
          rw [HS.out, HF.out]
          exact ret_poolE Try.results9 rfl h8 rfl rfl ⟨_, _, _, _, _, _, rfl, (hN.np.turned ht8 (hN.np.far (by omega))).low (by omega), ht8.below hN.bel (Nat.le_refl _)⟩
  · have HS : Hid (newS blocks bad = ([], [], 20)) := by show _ = _; unfold newS; rw [if_neg hbl]
    go_enter Try.func9, Try.ntmps9
    go_wp2_with (first
      | (go_at_call 41; refine (within_no _ hbl).mono ?_; rintro e w' ⟨rfl, hw'⟩; have hw2 := hw'.symm; subst hw2; clear hw')
      | (refine wpList_store_blk rfl 25 (.tmp 4) (.tmp 12) rfl _ _ [.slice none 0 0, .slice none 0 0] rfl rfl res0 (by simp) (poolSize _ _) one2 ?_; intro w8 h8 ht8; replace h8 : Blk w8 w.heap.size 25 [.slice none 0 0, .slice none 0 0] := h8))
    rw [HS.out]
    exact ret_poolE Try.results9 rfl h8 rfl rfl ⟨_, _, _, _, _, _, rfl, NewP.zero _ _, ht8.below bel0 (Nat.le_refl _)⟩
end Go.Proofs.Ytigkfmdhmonjlaa
