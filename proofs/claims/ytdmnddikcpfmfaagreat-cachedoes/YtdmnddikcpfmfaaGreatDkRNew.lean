/-
  What the reference's New makes.
-/
import Derived.Test.YtdmnddikcpfmfaaGreatDkRef
namespace Go.Proofs.YtdmnddikcpfmfaaGreat
open Go.RowKit
def newR (n : Nat) : RS := ⟨List.replicate n z256, List.replicate n false, false, false, 0, 0, []⟩
/-- The document's disk, its first k sectors made. -/
structure NewR (w W : World) (r : Nat) (sv bv : Value) (rs : List SR) (n k : Nat) : Prop where
  blk : Blk W r 66 [sv, bv, .bool false, .bool false, .int .i64 0, .int .i64 0, .slice none 0 0]
  srow : W.ownsRow w.heap.size 52 1 sv rs.length (rs.map srV)
  sec : EachIn W rs (List.replicate k z256)
  su8 : AllU8 W rs
  brow : W.ownsRow w.heap.size 4 1 bv n (valsBo (List.replicate n false))
  bel : Below w.heap.size w W
  low : w.heap.size ≤ r
theorem NewR.grown {w W w4 wc : World} {r : Nat} {sv bv : Value} {rs : List SR} {n k : Nat} {pc : Option Addr} {m cc : Nat} (h : NewR w W r sv bv rs n k) (ha : Below W.heap.size W (wc.alloc (.cells #[.slice pc m cc] 52))) (hin : In wc pc m cc z256) (hu : U8 wc pc) (hg : (wc.alloc (.cells #[.slice pc m cc] 52)).grownBy w4 sv.ownBlock)
    {p1 : Option Addr} {c1 : Nat} (hp : w4.ownsRow w.heap.size 52 1 (.slice p1 (rs.length + 1) c1) (rs.length + 1) ((rs ++ [(⟨pc, m, cc⟩ : SR)]).map srV)) :
    Blk w4 r 66 [sv, bv, .bool false, .bool false, .int .i64 0, .int .i64 0, .slice none 0 0] ∧ NewR w (w4.setCell ⟨r, 0, none⟩ (.slice p1 (rs.length + 1) c1)) r (.slice p1 (rs.length + 1) c1) bv (rs ++ [⟨pc, m, cc⟩]) n (k + 1) := by
  have hrA := owns_below h.srow ha
  have n0 : ∀ j, sv.ownBlock = some j → j ≠ r := fun j hj => owns_ne h.srow hj h.blk (by decide)
  have i4 : Blk w4 r 66 [sv, bv, .bool false, .bool false, .int .i64 0, .int .i64 0, .slice none 0 0] := (h.blk.kept ha).grown hg (fun e => n0 _ e.symm rfl)
  have uA : AllU8 (wc.alloc (.cells #[.slice pc m cc] 52)) (rs ++ [⟨pc, m, cc⟩]) := (h.su8.below ha).snoc (hu.below (below_alloc wc _))
  have eA : EachIn (wc.alloc (.cells #[.slice pc m cc] 52)) (rs ++ [⟨pc, m, cc⟩]) (List.replicate k z256 ++ [z256]) := (h.sec.below ha).snoc (r := ⟨pc, m, cc⟩) (hin.below (below_alloc wc _))
  have s4 := grow_same uA hrA (by decide) hg
  have u4 := uA.same s4
  have E4 := eA.sameU uA s4
  have s5 := set_same u4 i4 (by decide) 0 (.slice p1 (rs.length + 1) c1)
  have np : ∀ j, (Value.slice p1 (rs.length + 1) c1).ownBlock = some j → j ≠ r := fun j hj => owns_ne hp hj i4 (by decide)
  have b4' : Below w.heap.size w w4 := (bt h.bel ha).grown hg (Nat.le_trans h.bel.size ha.size) (fun j hj => (h.srow.lt j hj).1)
  have bA := owns_below h.brow ha
  have b4 : w4.ownsRow w.heap.size 4 1 bv n (valsBo (List.replicate n false)) := owns_same bA (fun j hj => by
    obtain ⟨cs, hc, hlt⟩ := owns_row bA hj
    refine hg.block j hlt (fun e => ?_)
    obtain ⟨cs', hc', _⟩ := owns_row hrA e.symm
    rw [hc] at hc'; cases hc')
  rw [List.replicate_succ'.symm] at E4
  refine ⟨i4, i4.set 0 _, ?_, E4.sameU u4 s5, u4.same s5, owns_same b4 (fun j hj => heap_setCell_other _ _ _ _ (owns_ne b4 hj i4 (by decide))), b4'.trans ((Turned.setCell w4 ⟨r, 0, none⟩ _).below (Below.refl _ _) h.low), h.low⟩
  rw [List.length_append]
  exact owns_same hp (fun j hj => heap_setCell_other _ _ _ _ (np j hj))
theorem infoBo : (Tryz.prog.info? 4).map (fun i => (i.zero, i.size, i.bytes)) = some (some (.bool false), 1, 1) := by kernel_rfl
theorem owns_zero {w : World} {B : Nat} {e : TypeId} {z : Nat} {v : Value} {n : Nat} {xs : List Value} (h : w.ownsRow B e z v n xs) : w.ownsRow 0 e z v n xs := by
  refine ⟨h.1, ?_⟩
  rcases h.2 with h' | ⟨g, cap, cur, rfl, _, hr⟩
  · exact .inl h'
  · exact .inr ⟨g, cap, cur, rfl, Nat.zero_le _, hr⟩
theorem made_z256 {W w9 : World} (hown : w9.ownsRow 0 5 1 (.slice (some ⟨W.heap.size, 0, none⟩) 256 256) 256 (madeCells (Value.int .u8 0).cells (256 * 1)).toList) : In w9 (some ⟨W.heap.size, 0, none⟩) 256 256 z256 ∧ U8 w9 (some ⟨W.heap.size, 0, none⟩) := by
  refine ⟨?_, owns_u8 hown⟩
  rw [show (Value.int .u8 0).cells = #[Value.int .u8 0] from rfl, toList_madeCells_one, Nat.mul_one, show List.replicate 256 (Value.int .u8 0) = vals z256 from by unfold z256 vals; rw [List.map_replicate]; rfl] at hown
  obtain ⟨p', c', hv, hin⟩ := in_of_owns hown is_z256.2 (by omega)
  cases hv
  exact hin
set_option linter.unusedSimpArgs false in
set_option maxRecDepth 100000 in
set_option maxHeartbeats 2000000 in
theorem rnew_ok (n : Nat) (h1 : 1 ≤ n) (h2 : n ≤ 8192) (w : World) :
    Calls Tryz.prog 6 #[.int .i64 (n : Int)] w fun e w' => Below w.heap.size w w' ∧ ∃ r V, e = .returned (.tuple #[.pointer (some ⟨r, 0, none⟩), .int .i64 0]) ∧ (∀ k, fpR r V k → w.heap.size ≤ k) ∧ RefIn w' r V (newR n) := by
  obtain ⟨i0, hi, hz0, hz1, hz2⟩ := info_parts infoBo
  obtain ⟨j0, hj, hy0, hy1, hy2⟩ := info_parts info5
  have hn1 : (1 : Int) ≤ (n : Int) := by omega
  have hn2 : (n : Int) ≤ 8192 := by omega
  go_enter Tryz.func6, Tryz.ntmps6
  go_wp2_with (at_make; refine wpList_make_full _ rfl _ _ 63 rfl w.heap.size 4 i0 (.bool false) 1 Tryz.underlying63 hi hz0 hz1 .i64 .i64 _ _ n rfl rfl rfl rfl (by rw [hz2]; omega) (by unfold maxLen; omega) (Nat.le_refl _) ?_; intro w2 hown2 hgrow2)
  have hb2 := below_grown0 hgrow2
  rw [show (Value.bool false).cells = #[Value.bool false] from rfl, toList_madeCells_one, Nat.mul_one] at hown2
  have hbo : valsBo (List.replicate n false) = List.replicate n (.bool false) := by simp [valsBo]
  have hb3 := below_alloc w2 (.cells #[.slice none 0 0, .slice (some ⟨w.heap.size, 0, none⟩) n n, .bool false, .bool false, .int .i64 0, .int .i64 0, .slice none 0 0] 66)
  have hN0 : NewR w (w2.alloc (.cells #[.slice none 0 0, .slice (some ⟨w.heap.size, 0, none⟩) n n, .bool false, .bool false, .int .i64 0, .int .i64 0, .slice none 0 0] 66)) w2.heap.size (.slice none 0 0) (.slice (some ⟨w.heap.size, 0, none⟩) n n) [] n 0 :=
    ⟨Blk.new' w2 66 _, World.ownsRow_nil _ _ _ _, EachIn.nil _, (fun r hr => by simp at hr), by rw [hbo]; exact owns_below hown2 hb3, bt hb2 hb3, hb2.size⟩
  have hbr : w.heap.size ≤ w.heap.size := Nat.le_refl _
  generalize w2.alloc (.cells #[.slice none 0 0, .slice (some ⟨w.heap.size, 0, none⟩) n n, .bool false, .bool false, .int .i64 0, .int .i64 0, .slice none 0 0] 66) = w3 at *
  generalize w2.heap.size = r at *
  clear hown2 hgrow2 hb2 hb3 hbo hbr
  go_loopw [5] (fun i wr => ∃ (k : Nat) (sv : Value) (rs : List SR), k ≤ n ∧ i = .int .i64 (k : Int) ∧ NewR w wr r sv (.slice (some ⟨w.heap.size, 0, none⟩) n n) rs n k) (fun i _ => n - (intOf i).toNat)
  case atStart => exact ⟨0, _, _, Nat.zero_le _, rfl, hN0⟩
  case round =>
    obtain ⟨k, sv, rs, hk, rfl, hN⟩ := hrel
    clear hN0
    by_cases hlt : k < n
    · have hki : (k : Int) < (n : Int) := by omega
      have hki2 : (k : Int) ≤ 8192 := by omega
      have hrs : rs.length < 100000 := by have := hN.sec.len; rw [List.length_replicate] at this; omega
      have hsz : w.heap.size ≤ wr.heap.size := hN.bel.size
      obtain ⟨w9, hrun9, hown9, hgrow9⟩ := run_make_full (P := Tryz.prog) wr.drew 0 52 5 j0 (.int .u8 0) 1 Tryz.underlying52 hj hy0 hy1 .i64 .i64 256 (by rw [hy2]; omega) (by unfold maxLen; omega) (Nat.zero_le _)
      have hrun9' : (Instr.makeSlice 52 (.int .i64 256) (.int .i64 256)).run Tryz.prog wr.drew = .ok (.slice (some ⟨wr.heap.size, 0, none⟩) 256 256) w9 := hrun9
      obtain ⟨hin9, hu9⟩ := made_z256 (W := wr) hown9
      have hb9 : Below wr.heap.size wr w9 := bt ((Below.refl _ wr).drew) (below_grown0 hgrow9)
      have hbA : Below wr.heap.size wr (w9.alloc (.cells #[.slice (some ⟨wr.heap.size, 0, none⟩) 256 256] 52)) := bt hb9 (below_alloc w9 _)
      clear hrun9 hown9 hgrow9
      go_wp2_with fail
      refine wp_region_noPanic ?_
      refine wp_region_held_drew (S := fun _ => True) (by kernel_rfl) trivial (fun hHeld => ?_)
      refine wpAnyH_take (i := 0) (v := ?_) rfl (by kernel_rfl) (by kernel_rfl) (by kernel_rfl) (fun _ _ _ h => h) (Or.inl ⟨by rfl, ?_⟩) hHeld ?_
      rotate_left
      · intro w' hSw; try dsimp only at hSw
        go_simp; try (with_reducible rfl)
      try simp only [Act.put, List.getElem_toArray, List.getElem_cons_succ, List.getElem_cons_zero, List.setIfInBounds_toArray, List.set_cons_zero, List.set_cons_succ]
      refine wpAnyH_take (i := 1) (v := ?_) rfl (by kernel_rfl) (by kernel_rfl) (by kernel_rfl) (fun _ _ _ h => h) (Or.inl ⟨by rfl, ?_⟩) hHeld ?_
      rotate_left
      · intro w' hSw; try dsimp only at hSw
        go_simp; try (with_reducible rfl)
      try simp only [Act.put, List.getElem_toArray, List.getElem_cons_succ, List.getElem_cons_zero, List.setIfInBounds_toArray, List.set_cons_zero, List.set_cons_succ]
      refine wpAnyH_take (i := 2) (v := ?_) rfl (by kernel_rfl) (by kernel_rfl) (by kernel_rfl) (fun _ _ _ h => h) (Or.inl ⟨by rfl, ?_⟩) hHeld ?_
      rotate_left
      · intro w' hSw; try dsimp only at hSw
        go_simp; try (with_reducible rfl)
      try simp only [Act.put, List.getElem_toArray, List.getElem_cons_succ, List.getElem_cons_zero, List.setIfInBounds_toArray, List.set_cons_zero, List.set_cons_succ]
      refine wpAnyH_take (i := 3) (v := ?_) rfl (by kernel_rfl) (by kernel_rfl) (by kernel_rfl) (fun _ _ _ h => h) (Or.inl ⟨by rfl, ?_⟩) hHeld ?_
      rotate_left
      · intro w' hSw; try dsimp only at hSw
        go_simp; try (with_reducible rfl)
      try simp only [Act.put, List.getElem_toArray, List.getElem_cons_succ, List.getElem_cons_zero, List.setIfInBounds_toArray, List.set_cons_zero, List.set_cons_succ]
      refine wpAnyH_ready (rs := [4, 5]) (by kernel_rfl) (by simp) ?_
      refine AllReadyH.cons rfl (fun K hK => ?_) ?_
      · have c0 : (wr.drew).cell? ⟨r, 0, none⟩ = some sv := hN.blk.cell' rfl
        go_simp
        refine hK.out _ _ trivial (fun hHeld => ?_)
        clear hK K
        try simp only [Act.put, List.getElem_toArray, List.getElem_cons_succ, List.getElem_cons_zero, List.setIfInBounds_toArray, List.set_cons_zero, List.set_cons_succ]
        refine wpAnyH_ready (rs := [5]) (by kernel_rfl) (by simp) ?_
        refine AllReadyH.cons rfl (fun K hK => ?_) AllReadyH.nil
        go_simp
        refine hK.out _ _ trivial (fun hHeld => ?_)
        clear hK K
        try simp only [Act.put, List.getElem_toArray, List.getElem_cons_succ, List.getElem_cons_zero, List.setIfInBounds_toArray, List.set_cons_zero, List.set_cons_succ]
        refine wpAnyH_ready (rs := [6]) (by kernel_rfl) (by simp) ?_
        refine AllReadyH.cons rfl (fun K hK => ?_) AllReadyH.nil
        go_simp
        refine hK.out _ _ trivial (fun hHeld => ?_)
        clear hK K
        try simp only [Act.put, List.getElem_toArray, List.getElem_cons_succ, List.getElem_cons_zero, List.setIfInBounds_toArray, List.set_cons_zero, List.set_cons_succ]
        refine wpAnyH_ready (rs := [7]) (by kernel_rfl) (by simp) ?_
        refine AllReadyH.cons rfl (fun K hK => ?_) AllReadyH.nil
        rw [if_pos (by rfl)]
        refine wp_appendB w.heap.size (.tmp 25) (.tmp 27) rfl sv rs rfl (owns_below hN.srow hbA) (Nat.le_trans hsz hbA.size) w9.heap.size 0 ⟨some ⟨wr.heap.size, 0, none⟩, 256, 256⟩ rfl (Blk.new' w9 52 #[.slice (some ⟨wr.heap.size, 0, none⟩) 256 256] |>.cell' rfl) (by omega) ?_
        intro p1 c1 w4 hp1 hg1 hat1
        have H4 := hN.grown hbA hin9 hu9 hg1 hp1
        have c4 := H4.1.cell' (i := 0) (v := sv) rfl
        have f4 := H4.1.frozen 0
        refine hK.out _ _ trivial (fun hHeld => ?_)
        clear hK K
        try simp only [Act.put, List.getElem_toArray, List.getElem_cons_succ, List.getElem_cons_zero, List.setIfInBounds_toArray, List.set_cons_zero, List.set_cons_succ]
        refine wpAnyH_take (i := 8) (v := ?_) rfl (by kernel_rfl) (by kernel_rfl) (by kernel_rfl) (fun _ _ _ h => h) (Or.inl ⟨by rfl, ?_⟩) hHeld ?_
        rotate_left
        · intro w' hSw; try dsimp only at hSw
          go_simp; try (with_reducible rfl)
        try simp only [Act.put, List.getElem_toArray, List.getElem_cons_succ, List.getElem_cons_zero, List.setIfInBounds_toArray, List.set_cons_zero, List.set_cons_succ]
        refine wpAnyH_take (i := 9) (v := ?_) rfl (by kernel_rfl) (by kernel_rfl) (by kernel_rfl) (fun _ _ _ h => h) (Or.inl ⟨by rfl, ?_⟩) hHeld ?_
        rotate_left
        · intro w' hSw; try dsimp only at hSw
          go_simp; try (with_reducible rfl)
        try simp only [Act.put, List.getElem_toArray, List.getElem_cons_succ, List.getElem_cons_zero, List.setIfInBounds_toArray, List.set_cons_zero, List.set_cons_succ]
        refine wpAnyH_ready (rs := [10]) (by kernel_rfl) (by simp) ?_
        refine AllReadyH.cons rfl (fun K hK => ?_) AllReadyH.nil
        go_simp
        refine hK.out _ _ trivial (fun hHeld => ?_)
        clear hK K
        try simp only [Act.put, List.getElem_toArray, List.getElem_cons_succ, List.getElem_cons_zero, List.setIfInBounds_toArray, List.set_cons_zero, List.set_cons_succ]
        refine wpAnyH_done (by kernel_rfl) ?_ _
        refine NoPanic.normal ?_
        go_wp2_with fail
        go_roundw
        case rel => exact ⟨k + 1, _, _, by omega, by go_num, H4.2⟩
        case measure => simp [intOf]; omega
      refine AllReadyH.cons rfl (fun K hK => ?_) AllReadyH.nil
      go_simp
      refine hK.out _ _ trivial (fun hHeld => ?_)
      clear hK K
      try simp only [Act.put, List.getElem_toArray, List.getElem_cons_succ, List.getElem_cons_zero, List.setIfInBounds_toArray, List.set_cons_zero, List.set_cons_succ]
      refine wpAnyH_ready (rs := [4, 6]) (by kernel_rfl) (by simp) ?_
      refine AllReadyH.cons rfl (fun K hK => ?_) ?_
      · have c0 : (w9).cell? ⟨r, 0, none⟩ = some sv := (hN.blk.kept hb9).cell' rfl
        go_simp
        refine hK.out _ _ trivial (fun hHeld => ?_)
        clear hK K
        try simp only [Act.put, List.getElem_toArray, List.getElem_cons_succ, List.getElem_cons_zero, List.setIfInBounds_toArray, List.set_cons_zero, List.set_cons_succ]
        refine wpAnyH_ready (rs := [6]) (by kernel_rfl) (by simp) ?_
        refine AllReadyH.cons rfl (fun K hK => ?_) AllReadyH.nil
        go_simp
        refine hK.out _ _ trivial (fun hHeld => ?_)
        clear hK K
        try simp only [Act.put, List.getElem_toArray, List.getElem_cons_succ, List.getElem_cons_zero, List.setIfInBounds_toArray, List.set_cons_zero, List.set_cons_succ]
        refine wpAnyH_ready (rs := [7]) (by kernel_rfl) (by simp) ?_
        refine AllReadyH.cons rfl (fun K hK => ?_) AllReadyH.nil
        rw [if_pos (by rfl)]
        refine wp_appendB w.heap.size (.tmp 25) (.tmp 27) rfl sv rs rfl (owns_below hN.srow hbA) (Nat.le_trans hsz hbA.size) w9.heap.size 0 ⟨some ⟨wr.heap.size, 0, none⟩, 256, 256⟩ rfl (Blk.new' w9 52 #[.slice (some ⟨wr.heap.size, 0, none⟩) 256 256] |>.cell' rfl) (by omega) ?_
        intro p1 c1 w4 hp1 hg1 hat1
        have H4 := hN.grown hbA hin9 hu9 hg1 hp1
        have c4 := H4.1.cell' (i := 0) (v := sv) rfl
        have f4 := H4.1.frozen 0
        refine hK.out _ _ trivial (fun hHeld => ?_)
        clear hK K
        try simp only [Act.put, List.getElem_toArray, List.getElem_cons_succ, List.getElem_cons_zero, List.setIfInBounds_toArray, List.set_cons_zero, List.set_cons_succ]
        refine wpAnyH_take (i := 8) (v := ?_) rfl (by kernel_rfl) (by kernel_rfl) (by kernel_rfl) (fun _ _ _ h => h) (Or.inl ⟨by rfl, ?_⟩) hHeld ?_
        rotate_left
        · intro w' hSw; try dsimp only at hSw
          go_simp; try (with_reducible rfl)
        try simp only [Act.put, List.getElem_toArray, List.getElem_cons_succ, List.getElem_cons_zero, List.setIfInBounds_toArray, List.set_cons_zero, List.set_cons_succ]
        refine wpAnyH_take (i := 9) (v := ?_) rfl (by kernel_rfl) (by kernel_rfl) (by kernel_rfl) (fun _ _ _ h => h) (Or.inl ⟨by rfl, ?_⟩) hHeld ?_
        rotate_left
        · intro w' hSw; try dsimp only at hSw
          go_simp; try (with_reducible rfl)
        try simp only [Act.put, List.getElem_toArray, List.getElem_cons_succ, List.getElem_cons_zero, List.setIfInBounds_toArray, List.set_cons_zero, List.set_cons_succ]
        refine wpAnyH_ready (rs := [10]) (by kernel_rfl) (by simp) ?_
        refine AllReadyH.cons rfl (fun K hK => ?_) AllReadyH.nil
        go_simp
        refine hK.out _ _ trivial (fun hHeld => ?_)
        clear hK K
        try simp only [Act.put, List.getElem_toArray, List.getElem_cons_succ, List.getElem_cons_zero, List.setIfInBounds_toArray, List.set_cons_zero, List.set_cons_succ]
        refine wpAnyH_done (by kernel_rfl) ?_ _
        refine NoPanic.normal ?_
        go_wp2_with fail
        go_roundw
        case rel => exact ⟨k + 1, _, _, by omega, by go_num, H4.2⟩
        case measure => simp [intOf]; omega
      refine AllReadyH.cons rfl (fun K hK => ?_) AllReadyH.nil
      go_simp
      refine hK.out _ _ trivial (fun hHeld => ?_)
      clear hK K
      try simp only [Act.put, List.getElem_toArray, List.getElem_cons_succ, List.getElem_cons_zero, List.setIfInBounds_toArray, List.set_cons_zero, List.set_cons_succ]
      refine wpAnyH_ready (rs := [4]) (by kernel_rfl) (by simp) ?_
      refine AllReadyH.cons rfl (fun K hK => ?_) AllReadyH.nil
      have c0 : (w9.alloc (.cells #[.slice (some ⟨wr.heap.size, 0, none⟩) 256 256] 52)).cell? ⟨r, 0, none⟩ = some sv := (hN.blk.kept hbA).cell' rfl
      go_simp
      refine hK.out _ _ trivial (fun hHeld => ?_)
      clear hK K
      try simp only [Act.put, List.getElem_toArray, List.getElem_cons_succ, List.getElem_cons_zero, List.setIfInBounds_toArray, List.set_cons_zero, List.set_cons_succ]
      refine wpAnyH_ready (rs := [7]) (by kernel_rfl) (by simp) ?_
      refine AllReadyH.cons rfl (fun K hK => ?_) AllReadyH.nil
      rw [if_pos (by rfl)]
      refine wp_appendB w.heap.size (.tmp 25) (.tmp 27) rfl sv rs rfl (owns_below hN.srow hbA) (Nat.le_trans hsz hbA.size) w9.heap.size 0 ⟨some ⟨wr.heap.size, 0, none⟩, 256, 256⟩ rfl (Blk.new' w9 52 #[.slice (some ⟨wr.heap.size, 0, none⟩) 256 256] |>.cell' rfl) (by omega) ?_
      intro p1 c1 w4 hp1 hg1 hat1
      have H4 := hN.grown hbA hin9 hu9 hg1 hp1
      have c4 := H4.1.cell' (i := 0) (v := sv) rfl
      have f4 := H4.1.frozen 0
      refine hK.out _ _ trivial (fun hHeld => ?_)
      clear hK K
      try simp only [Act.put, List.getElem_toArray, List.getElem_cons_succ, List.getElem_cons_zero, List.setIfInBounds_toArray, List.set_cons_zero, List.set_cons_succ]
      refine wpAnyH_take (i := 8) (v := ?_) rfl (by kernel_rfl) (by kernel_rfl) (by kernel_rfl) (fun _ _ _ h => h) (Or.inl ⟨by rfl, ?_⟩) hHeld ?_
      rotate_left
      · intro w' hSw; try dsimp only at hSw
        go_simp; try (with_reducible rfl)
      try simp only [Act.put, List.getElem_toArray, List.getElem_cons_succ, List.getElem_cons_zero, List.setIfInBounds_toArray, List.set_cons_zero, List.set_cons_succ]
      refine wpAnyH_take (i := 9) (v := ?_) rfl (by kernel_rfl) (by kernel_rfl) (by kernel_rfl) (fun _ _ _ h => h) (Or.inl ⟨by rfl, ?_⟩) hHeld ?_
      rotate_left
      · intro w' hSw; try dsimp only at hSw
        go_simp; try (with_reducible rfl)
      try simp only [Act.put, List.getElem_toArray, List.getElem_cons_succ, List.getElem_cons_zero, List.setIfInBounds_toArray, List.set_cons_zero, List.set_cons_succ]
      refine wpAnyH_ready (rs := [10]) (by kernel_rfl) (by simp) ?_
      refine AllReadyH.cons rfl (fun K hK => ?_) AllReadyH.nil
      go_simp
      refine hK.out _ _ trivial (fun hHeld => ?_)
      clear hK K
      try simp only [Act.put, List.getElem_toArray, List.getElem_cons_succ, List.getElem_cons_zero, List.setIfInBounds_toArray, List.set_cons_zero, List.set_cons_succ]
      refine wpAnyH_done (by kernel_rfl) ?_ _
      refine NoPanic.normal ?_
      go_wp2_with fail
      go_roundw
      case rel => exact ⟨k + 1, _, _, by omega, by go_num, H4.2⟩
      case measure => simp [intOf]; omega
    · obtain rfl : k = n := by omega
      have hki : ¬ (k : Int) < (k : Int) := by omega
      go_wp2_with fail
      go_ret2
      refine ⟨hN.bel, r, rfl, ⟨sv, .slice (some ⟨w.heap.size, 0, none⟩) k k, .slice none 0 0, rs, []⟩, ?_, hN.blk, owns_zero hN.srow, hN.sec, hN.su8, ?_, World.ownsRow_nil _ _ _ _, EachIn.nil _, (fun r hr => by simp at hr), ?_, (fun x hx => by cases hx), ?_, ?_, ?_, Nat.zero_le _, (fun h => by cases h), by show 0 ≤ 2000; omega, ⟨by show (-9223372036854775808 : Int) ≤ 0; omega, by show (0 : Int) ≤ 9223372036854775807; omega⟩⟩
      · rintro j (rfl | hj | hj | hj)
        · exact hN.low
        · exact (hN.srow.lt j hj).1
        · exact (hN.brow.lt j hj).1
        · simp [Value.ownBlock] at hj
      · have := owns_zero hN.brow
        simpa [newR] using this
      · intro D hD; rw [List.eq_of_mem_replicate hD]; exact is_z256
      · simp [newR]
      · simpa [newR] using h1
      · simpa [newR] using h2
theorem rnew_no (n : Int) (h : ¬ (1 ≤ n ∧ n ≤ 8192)) (w : World) : Calls Tryz.prog 6 #[.int .i64 n] w fun e w' => e = .returned (.tuple #[.pointer none, .int .i64 1]) ∧ w' = w := by
  by_cases h1 : n < 1
  · go_enter Tryz.func6, Tryz.ntmps6
    go_wp2
    go_ret2
    exact ⟨rfl, rfl⟩
  · have h2 : 8192 < n := by omega
    go_enter Tryz.func6, Tryz.ntmps6
    go_wp2
    go_ret2
    exact ⟨rfl, rfl⟩
end Go.Proofs.YtdmnddikcpfmfaaGreat
