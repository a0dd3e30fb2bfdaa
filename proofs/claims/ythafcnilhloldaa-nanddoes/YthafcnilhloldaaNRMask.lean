/-
  The reference's Masked: pages joined, masked, and cut into pages again.
-/
import Derived.Test.YthafcnilhloldaaNRBeg
import Derived.Test.YthafcnilhloldaaRefMask
import Derived.Deep.RegionHeld3
import Derived.Deep.Cut
import Derived.Laws.OwnMore
namespace Go.Proofs.Ythafcnilhloldaa
open Go.RowKit Go.Shelf
theorem slice_from (b o T c j : Nat) (z : Int) (hz : z = (j : Int)) (hj : j < T) (hc : T ≤ c) (W : World) : (Instr.slice 70 (.slice (some ⟨b, o, none⟩) T c) (some (.int .i64 z)) none none).run Try.prog W = .ok (.slice (some ⟨b, o + j, none⟩) (T - j) (c - j)) W := by
  subst hz
  have h1 : ¬ c = j := by omega
  have h3 : (j : Int) ≤ (T : Int) := by omega
  simp [Instr.slice, Instr.sliceBounds, Instr.sliceBound, run_underlying Try.underlying70, asIntOf, h1, addr_add]
  intro h9
  omega
theorem two_parts (M : List Nat) (k : Nat) (h : k + 288 ≤ M.length) :
    ((fillP 0).take 0 ++ (M.drop k).take 256 ++ (fillP 0).drop (0 + 256)).take 256 ++ (M.drop (k + 256)).take 32 ++ ((fillP 0).take 0 ++ (M.drop k).take 256 ++ (fillP 0).drop (0 + 256)).drop (256 + 32) = (M.drop k).take 288 := by
  have h1 : ((M.drop k).take 256).length = 256 := by rw [List.length_take, List.length_drop]; omega
  have h2 : ((fillP 0).drop (0 + 256)).length = 32 := by rw [List.length_drop, fillP_length]
  have e1 : ((M.drop k).take 256 ++ (fillP 0).drop (0 + 256)).take 256 = (M.drop k).take 256 := by
    rw [List.take_append_of_le_length (by rw [h1]; exact Nat.le_refl _)]; exact List.take_of_length_le (by rw [h1]; exact Nat.le_refl _)
  have e2 : ((M.drop k).take 256 ++ (fillP 0).drop (0 + 256)).drop (256 + 32) = [] := List.drop_eq_nil_of_le (by rw [List.length_append, h1, h2]; exact Nat.le_refl _)
  rw [List.take_zero, List.nil_append, e1, e2, List.append_nil, show (288 : Nat) = 256 + 32 from rfl, List.take_add, List.drop_drop]
theorem chunk_succ (k : Nat) (M : List Nat) : chunk (k + 1) M = chunk k M ++ [(M.drop (k * 288)).take 288] := by
  unfold chunk
  rw [List.range_succ, List.map_append]; rfl
set_option linter.unusedSimpArgs false in
set_option linter.unusedVariables false in
set_option maxRecDepth 100000 in
set_option maxHeartbeats 8000000 in
theorem masked_any (g n c : Nat) (ps : List (List Nat)) (q : Option Addr) (m d : Nat) (ms : List Nat) (w : World) (hP : ∀ p ∈ ps, IsP p) (hn : ps.length = n) (hl : n ≤ 32) (hx : ∀ j u, (vals ps.flatten)[j]? = some u → w.cell? ⟨g, j, none⟩ = some u) (hg : g < w.heap.size) (hm : In w q m d ms) :
    Calls Try.prog 59 #[.slice (some ⟨g, 0, none⟩) n c, .slice q m d] w fun e w' => ∃ v, e = .returned v ∧ PagesIn w' v (chunk n (maskL ps.flatten ms)) ∧ (∀ k, v.ownBlock = some k → w.heap.size ≤ k) ∧ Below w.heap.size w w' := by
  have hz := zeroPage
  obtain ⟨i0, hi, hz0, hz1, hz2⟩ := info_parts info5
  have hF : ps.flatten.length = n * 288 := by rw [flat_length hP, hn]
  have hFb := flat_byte hP
  clear hP hn
  generalize ps.flatten = F at *
  have HF : Hid (F.length = n * 288) := hF
  clear hF
  go_enter Try.func59, Try.ntmps59
  go_wp2
  go_loopw [5, 6] (fun v t wr => ∃ k L : Nat, k ≤ n ∧ t = .int .i64 (k : Int) ∧ Hid (L = k * 288) ∧ wr.ownsRow w.heap.size 5 1 v L (vals (F.take L)) ∧ Below w.heap.size w wr) (fun _ t _ => n - (intOf t).toNat)
  case atStart => exact ⟨0, 0, Nat.zero_le _, rfl, rfl, World.ownsRow_nil _ _ _ _, Below.refl _ _⟩
  case round =>
    obtain ⟨k, L, hk, rfl, HL, hown, hbel⟩ := hrel
    by_cases hlt : k < n
    · have hki : (k : Int) < (n : Int) := by omega
      have hsrc : ∀ W, Below w.heap.size w W → ∀ (f l : Nat), f + l ≤ n * 288 → ∀ j u, (vals ((F.drop f).take l))[j]? = some u → W.cell? ((⟨g, f, none⟩ : Addr).add j) = some u := by
        intro W hW f l hfl j u hu
        obtain ⟨hj, rfl⟩ := vals_get_inv hu
        have hjl : j < l := by rw [List.length_take] at hj; omega
        rw [addr_add]
        refine (hW.cell (p := ⟨g, f + j, none⟩) hg).trans (hx (f + j) _ ?_)
        rw [vals_get F (f + j) (by rw [HF.out]; omega)]
        congr 2
        simp [el, List.getD_eq_getElem?_getD, List.getElem?_take_of_lt hjl]
      have hLn : k * 288 + 288 ≤ n * 288 := by omega
      go_upto_region 5 with fail
      refine wp_region_noPanic ?_
      refine wp_region_held_drew (S := fun _ => True) (by kernel_rfl) trivial (fun hHeld => ?_)
      refine wpAnyH_take (i := 0) (v := ?_) rfl (by kernel_rfl) (by kernel_rfl) (by kernel_rfl) (fun _ _ _ h => h) (Or.inl ⟨by rfl, ?_⟩) hHeld ?_
      rotate_left
      · intro w' hSw; try dsimp only at hSw
        go_simp; try (with_reducible rfl)
      try simp only [Act.put, List.getElem_toArray, List.getElem_cons_succ, List.getElem_cons_zero, List.setIfInBounds_toArray, List.set_cons_zero, List.set_cons_succ]
      refine wpAnyH_take (i := 1) (v := ?_) rfl (by kernel_rfl) (by kernel_rfl) (by kernel_rfl) (fun _ _ _ h => h) (Or.inl ⟨by rfl, ?_⟩) hHeld ?_
      rotate_left
      · intro w' hSw; try dsimp only at hSw
        go_simp; try (with_reducible rfl)
      try simp only [Act.put, List.getElem_toArray, List.getElem_cons_succ, List.getElem_cons_zero, List.setIfInBounds_toArray, List.set_cons_zero, List.set_cons_succ]
      refine wpAnyH_take (i := 2) (v := ?_) rfl (by kernel_rfl) (by kernel_rfl) (by kernel_rfl) (fun _ _ _ h => h) (Or.inl ⟨by rfl, ?_⟩) hHeld ?_
      rotate_left
      · intro w' hSw; try dsimp only at hSw
        go_simp; try (with_reducible rfl)
      try simp only [Act.put, List.getElem_toArray, List.getElem_cons_succ, List.getElem_cons_zero, List.setIfInBounds_toArray, List.set_cons_zero, List.set_cons_succ]
      refine wpAnyH_take (i := 3) (v := ?_) rfl (by kernel_rfl) (by kernel_rfl) (by kernel_rfl) (fun _ _ _ h => h) (Or.inl ⟨by rfl, ?_⟩) hHeld ?_
      rotate_left
      · intro w' hSw; try dsimp only at hSw
        go_simp; try (with_reducible rfl)
      try simp only [Act.put, List.getElem_toArray, List.getElem_cons_succ, List.getElem_cons_zero, List.setIfInBounds_toArray, List.set_cons_zero, List.set_cons_succ]
      refine wpAnyH_take (i := 4) (v := ?_) rfl (by kernel_rfl) (by kernel_rfl) (by kernel_rfl) (fun _ _ _ h => h) (Or.inl ⟨by rfl, ?_⟩) hHeld ?_
      rotate_left
      · intro w' hSw; try dsimp only at hSw
        go_simp; try (with_reducible rfl)
      try simp only [Act.put, List.getElem_toArray, List.getElem_cons_succ, List.getElem_cons_zero, List.setIfInBounds_toArray, List.set_cons_zero, List.set_cons_succ]
      refine wpAnyH_take (i := 5) (v := ?_) rfl (by kernel_rfl) (by kernel_rfl) (by kernel_rfl) (fun _ _ _ h => h) (Or.inl ⟨by rfl, ?_⟩) hHeld ?_
      rotate_left
      · intro w' hSw; try dsimp only at hSw
        go_simp; try (with_reducible rfl)
      try simp only [Act.put, List.getElem_toArray, List.getElem_cons_succ, List.getElem_cons_zero, List.setIfInBounds_toArray, List.set_cons_zero, List.set_cons_succ]
      refine wpAnyH_take (i := 7) (v := ?_) rfl (by kernel_rfl) (by kernel_rfl) (by kernel_rfl) (fun _ _ _ h => h) (Or.inl ⟨by rfl, ?_⟩) hHeld ?_
      rotate_left
      · intro w' hSw; try dsimp only at hSw
        go_simp; try (with_reducible rfl)
      try simp only [Act.put, List.getElem_toArray, List.getElem_cons_succ, List.getElem_cons_zero, List.setIfInBounds_toArray, List.set_cons_zero, List.set_cons_succ]
      refine wpAnyH_take (i := 8) (v := ?_) rfl (by kernel_rfl) (by kernel_rfl) (by kernel_rfl) (fun _ _ _ h => h) (Or.inl ⟨by rfl, ?_⟩) hHeld ?_
      rotate_left
      · intro w' hSw; try dsimp only at hSw
        go_simp; try (with_reducible rfl)
      try simp only [Act.put, List.getElem_toArray, List.getElem_cons_succ, List.getElem_cons_zero, List.setIfInBounds_toArray, List.set_cons_zero, List.set_cons_succ]
      refine wpAnyH_take (i := 9) (v := ?_) rfl (by kernel_rfl) (by kernel_rfl) (by kernel_rfl) (fun _ _ _ h => h) (Or.inl ⟨by rfl, ?_⟩) hHeld ?_
      rotate_left
      · intro w' hSw; try dsimp only at hSw
        go_simp; try (with_reducible rfl)
      try simp only [Act.put, List.getElem_toArray, List.getElem_cons_succ, List.getElem_cons_zero, List.setIfInBounds_toArray, List.set_cons_zero, List.set_cons_succ]
      refine wpAnyH_take (i := 10) (v := ?_) rfl (by kernel_rfl) (by kernel_rfl) (by kernel_rfl) (fun _ _ _ h => h) (Or.inl ⟨by rfl, ?_⟩) hHeld ?_
      rotate_left
      · intro w' hSw; try dsimp only at hSw
        go_simp; try (with_reducible rfl)
      try simp only [Act.put, List.getElem_toArray, List.getElem_cons_succ, List.getElem_cons_zero, List.setIfInBounds_toArray, List.set_cons_zero, List.set_cons_succ]
      refine wpAnyH_take (i := 11) (v := ?_) rfl (by kernel_rfl) (by kernel_rfl) (by kernel_rfl) (fun _ _ _ h => h) (Or.inl ⟨by rfl, ?_⟩) hHeld ?_
      rotate_left
      · intro w' hSw; try dsimp only at hSw
        go_simp; try (with_reducible rfl)
      try simp only [Act.put, List.getElem_toArray, List.getElem_cons_succ, List.getElem_cons_zero, List.setIfInBounds_toArray, List.set_cons_zero, List.set_cons_succ]
      refine wpAnyH_ready (rs := [6]) (by kernel_rfl) (by simp) ?_
      refine AllReadyH.cons rfl (fun K hK => ?_) AllReadyH.nil
      have hD : Below w.heap.size w wr.drew := hbel.drew
      refine wp_append_own _ (.tmp 17) (.tmp 22) 70 rfl w.heap.size 5 i0 (.int .u8 0) 1 1 Try.underlying70 hi hz0 hz1 hz2 rfl (by decide) u5 L (vals (F.take L)) rfl (hown.drew) ⟨g, k * 288, none⟩ 256 256 (vals ((F.drop (k * 288)).take 256)) rfl (by rw [vals_length, List.length_take, List.length_drop, HF.out]; omega) (hsrc _ hD _ _ (by omega)) (vals_one _) (by have := HL.out; unfold maxLen; omega) (by have := HL.out; omega) (hD.size) ?_
      intro v1 w1 hown1 hg1 _
      have hD1 := hD.grown hg1 hD.size (fun j hj => (hown.lt j hj).1)
      refine hK.out _ _ trivial (fun hHeld => ?_)
      clear hK K
      try simp only [Act.put, List.getElem_toArray, List.getElem_cons_succ, List.getElem_cons_zero, List.setIfInBounds_toArray, List.set_cons_zero, List.set_cons_succ]
      refine wpAnyH_ready (rs := [12]) (by kernel_rfl) (by simp) ?_
      refine AllReadyH.cons rfl (fun K hK => ?_) AllReadyH.nil
      refine wp_append_own _ (.tmp 23) (.tmp 28) 70 rfl w.heap.size 5 i0 (.int .u8 0) 1 1 Try.underlying70 hi hz0 hz1 hz2 rfl (by decide) v1 (L + 256) (vals (F.take L) ++ vals ((F.drop (k * 288)).take 256)) rfl hown1 ⟨g, k * 288 + 256, none⟩ 32 32 (vals ((F.drop (k * 288 + 256)).take 32)) rfl (by rw [vals_length, List.length_take, List.length_drop, HF.out]; omega) (hsrc _ hD1 _ _ (by omega)) (vals_one _) (by have := HL.out; unfold maxLen; omega) (by have := HL.out; omega) (hD1.size) ?_
      intro v2 w2 hown2 hg2 _
      have hD2 := hD1.grown hg2 hD1.size (fun j hj => (hown1.lt j hj).1)
      refine hK.out _ _ trivial (fun hHeld => ?_)
      clear hK K
      try simp only [Act.put, List.getElem_toArray, List.getElem_cons_succ, List.getElem_cons_zero, List.setIfInBounds_toArray, List.set_cons_zero, List.set_cons_succ]
      refine wpAnyH_take (i := 13) (v := ?_) rfl (by kernel_rfl) (by kernel_rfl) (by kernel_rfl) (fun _ _ _ h => h) (Or.inl ⟨by rfl, ?_⟩) hHeld ?_
      rotate_left
      · intro w' hSw; try dsimp only at hSw
        go_simp; try (with_reducible rfl)
      try simp only [Act.put, List.getElem_toArray, List.getElem_cons_succ, List.getElem_cons_zero, List.setIfInBounds_toArray, List.set_cons_zero, List.set_cons_succ]
      refine wpAnyH_done (by kernel_rfl) ?_ _
      refine NoPanic.normal ?_
      have e2 : vals (F.take L) ++ vals ((F.drop (k * 288)).take 256) ++ vals ((F.drop (k * 288 + 256)).take 32) = vals (F.take (L + 256 + 32)) := by
        rw [← vals_append, ← vals_append, HL.out, ← List.take_add, ← List.take_add]
      rw [e2] at hown2
      clear hown1 hg1 hg2 hsrc
      go_wp2
      go_roundw
      case rel => exact ⟨k + 1, L + 256 + 32, by omega, by go_num, by show _ = _; rw [HL.out]; omega, hown2, hD2⟩
      case measure => simp [intOf]; omega
    · obtain rfl : n = k := by omega
      have hkn : ¬ (n : Int) < (n : Int) := by omega
      obtain rfl : L = n * 288 := HL.out
      rw [List.take_of_length_le (by rw [HF.out]; exact Nat.le_refl _)] at hown
      obtain ⟨p0, c0, rfl, hin0⟩ := in_of_owns hown hFb (by omega)
      obtain ⟨T, hT⟩ : ∃ T, n * 288 = T := ⟨_, rfl⟩
      have HT : Hid (n * 288 = T) := hT
      rw [hT] at hin0
      try rw [hT]
      have hmr := hm.below hbel
      have hMb := maskL_byte hFb hm.byte
      have hMl : (maskL F ms).length = T := by rw [maskL_length, HF.out, hT]
      have hrm := refMask_any p0 q T c0 m d F ms wr hin0 hmr
      clear hT hx hown hmr hin0
      obtain ⟨M, hM⟩ : ∃ M, maskL F ms = M := ⟨_, rfl⟩
      rw [hM] at hMb hMl hrm
      have HM : Hid (maskL F ms = M) := hM
      clear hM
      go_wp2_with fail
      refine hrm.mono ?_
      rintro e w3 ⟨p1, c1, rfl, hin3, hb3⟩
      have hB3 := hbel.trans (hb3.mono hbel.size)
      have hw3 := hB3.size
      have HML : Hid (M.length = T) := hMl
      clear hrm hb3 hbel hMl
      go_wp2
      go_loopw [7, 8] (fun v t wr => ∃ k : Nat, k ≤ n ∧ t = .int .i64 (k : Int) ∧ PagesIn wr v (chunk k M) ∧ (∀ j, v.ownBlock = some j → w3.heap.size ≤ j) ∧ Below w3.heap.size w3 wr) (fun _ t _ => n - (intOf t).toNat)
      case atStart => exact ⟨0, Nat.zero_le _, rfl, PagesIn.nil _, (fun j hj => by cases hj), Below.refl _ _⟩
      case round =>
        obtain ⟨k, hk, rfl, hpv, hov, hbw⟩ := hrel
        by_cases hlt : k < n
        · have hki : (k : Int) < (n : Int) := by omega
          have hTk : k * 288 + 288 ≤ T := by have := HT.out; omega
          have hin := hin3.below hbw
          have hcap := hin.cap
          obtain ⟨b, o, rfl, hb, hcell⟩ := hin.at' (by omega)
          have hB0 : Blk ((wr.alloc (.cells (vals (fillP 0)).toArray 46)).drew) wr.heap.size 46 (vals (fillP 0)) := (Blk.new wr 46 (vals (fillP 0))).drew
          have hD : Below wr.heap.size wr ((wr.alloc (.cells (vals (fillP 0)).toArray 46)).drew) := (below_alloc wr _).drew
          have hsrc : ∀ W, Below wr.heap.size wr W → ∀ (f l : Nat), f + l ≤ T → ∀ j u, (vals ((M.drop f).take l))[j]? = some u → W.cell? ((⟨b, o + f, none⟩ : Addr).add j) = some u := by
            intro W hW f l hfl j u hu
            obtain ⟨hj, rfl⟩ := vals_get_inv hu
            have hjl : j < l := by rw [List.length_take] at hj; omega
            rw [addr_add]
            refine (hW.cell (p := ⟨b, o + f + j, none⟩) hb).trans ?_
            have := hcell (f + j) (by omega)
            rw [show o + f + j = o + (f + j) from by omega, this]
            congr 2
            simp [el, List.getD_eq_getElem?_getD, List.getElem?_take_of_lt hjl]
          obtain ⟨w4, hcp1, hB4, ht4⟩ := copy_blk (sCap := c1 - k * 288) (sLen := T - k * 288) (o := 0) hB0 (zs := (M.drop (k * 288)).take 256) (L := 256) (b := b) (so := o + k * 288) (by rw [List.length_take, List.length_drop, HML.out]; omega) (hsrc _ hD _ _ (by omega)) (by omega) (by rw [fillP_length]; omega)
          have hD4 : Below wr.heap.size wr w4 := ht4.below hD (Nat.le_refl _)
          have hz1l : ((fillP 0).take 0 ++ (M.drop (k * 288)).take 256 ++ (fillP 0).drop (0 + 256)).length = 288 := by
            rw [List.length_append, List.length_append, List.length_take, List.length_take, List.length_drop, List.length_drop, fillP_length, HML.out]; omega
          obtain ⟨w5, hcp2, hB5, ht5⟩ := copy_blk (w := w4.drew) (sCap := c1 - (k * 288 + 256)) (sLen := T - (k * 288 + 256)) (o := 256) hB4.drew (zs := (M.drop (k * 288 + 256)).take 32) (L := 32) (b := b) (so := o + (k * 288 + 256)) (by rw [List.length_take, List.length_drop, HML.out]; omega) (hsrc _ hD4.drew _ _ (by omega)) (by omega) (by rw [hz1l]; omega)
          have hD5 : Below wr.heap.size wr w5 := ht5.below hD4.drew (Nat.le_refl _)
          rw [two_parts M (k * 288) (by rw [HML.out]; omega)] at hB5
          have hs1 := slice_from b o T c1 (k * 288) ((k : Int) * 288) (by omega) (by omega) hcap
          have hs2 := slice_from b o T c1 (k * 288 + 256) ((k : Int) * 288 + 256) (by omega) (by omega) hcap
          have hxP : IsP ((M.drop (k * 288)).take 288) := ⟨by rw [List.length_take, List.length_drop, HML.out]; omega, fun y hy => hMb y (List.mem_of_mem_drop (List.mem_of_mem_take hy))⟩
          have hch := chunk_succ k M
          have hcl := chunk_length k M
          clear hsrc hcell hz1l hB4 hin
          generalize (M.drop (k * 288)).take 288 = x at *
          generalize (M.drop (k * 288)).take 256 = x1 at *
          generalize (M.drop (k * 288 + 256)).take 32 = x2 at *
          have hp5 := hpv.below hD5
          go_wp2
          go_region
          go_wp2
          go_region
          go_wp2_with (first
            | (guard_target = wpList _ _ _ (Oper.mk _ (Op.load 46 (Operand.tmp 9)) _ _ _ _ :: _) _ _; refine wpList_load_mid rfl 46 (.tmp 9) rfl _ _ rfl (vals x) _ (hB5.range 0 288 _ (by rw [List.drop_zero, List.take_of_length_le (by rw [vals_length, hxP.1]; exact Nat.le_refl _)])) Try.underlying46 rfl (sizeP hxP.1) ?_)
            | (guard_target = wpList _ _ _ (Oper.mk _ (Op.buildSlice _ _ _) _ _ _ _ :: _) _ _; refine wpList_buildPage rfl (.tmp 55) rfl x rfl hxP.1 ?_)
            | (at_builtin; refine wpList_appendPage rfl (.tmp 54) (.tmp 56) rfl u7 (chunk k M) rfl (hp5.below (below_alloc w5 _)) _ x rfl hxP (newRange (vals x)) (by rw [hcl]; omega) ?_; intro p9 c9 w9 hp9 hg9 ho9))
          try rw [hcl] at hp9 ho9
          rw [← hch] at hp9
          have hw5 : w3.heap.size ≤ w5.heap.size := Nat.le_trans hbw.size hD5.size
          have hD6 : Below w3.heap.size w3 (w5.alloc (.cells (vals x).toArray 46)) := (hbw.trans (hD5.mono hbw.size)).trans ((below_alloc w5 _).mono hw5)
          have hD9 := hD6.grown hg9 hD6.size (fun j hj => hov j hj)
          go_roundw
          case rel => exact ⟨k + 1, by omega, by go_num, hp9, fun j hj => by
            rcases ho9 with e | e
            · rw [e] at hj; exact hov j hj
            · rw [e, World.size_alloc] at hj; cases hj; exact Nat.le_trans hw5 (by omega), hD9⟩
          case measure => simp [intOf]; omega
        · obtain rfl : n = k := by omega
          have hkn : ¬ (n : Int) < (n : Int) := by omega
          go_wp2
          go_ret
          rw [← HM.out] at hpv
          exact ⟨u7, rfl, hpv, fun j hj => Nat.le_trans hw3 (hov j hj), hB3.trans (hbw.mono hw3)⟩
end Go.Proofs.Ythafcnilhloldaa
