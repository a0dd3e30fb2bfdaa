/-
  What the reference's Write does.
-/
import Derived.Test.YtdmnddikcpfmfaaGreatDkRSet
namespace Go.Proofs.YtdmnddikcpfmfaaGreat
open Go.RowKit
def rwE (t : RS) (i : Int) (n : Nat) : Int := if t.gone = true then 8 else if hasB t.secs.length i = false ∨ n ≠ 256 then 1 else if t.cut = true ∧ t.left = 0 then 8 else 0
def rwS (t : RS) (i : Int) (xs : List Nat) : RS :=
  if t.gone = true then t else if hasB t.secs.length i = false ∨ xs.length ≠ 256 then t else if t.cut = true ∧ t.left = 0 then { t with gone := true }
  else { t with left := if t.cut = true then t.left - 1 else t.left, secs := t.secs.set i.toNat xs, bad := t.bad.set i.toNat false, many := t.many + 1, wrote := t.wrote ++ [(i, xs)] }
theorem RefIn.cell0 {w : World} {r : Nat} {V : RV} {t : RS} (h : RefIn w r V t) {v : Value} (hv : V.sv = v) : w.cell? ⟨r, 0, none⟩ = some v := by rw [← hv]; exact h.blk.cell' rfl
theorem row_get (rs : List SR) (k : Nat) (h : k < rs.length) : (rs.map srV)[k]? = some (srV (rs.getD k ⟨none, 0, 0⟩)) := by simp [h, List.getD_eq_getElem?_getD]
theorem bo_get (bs : List Bool) (k : Nat) (h : k < bs.length) : (valsBo bs)[k]? = some (.bool (bs.getD k false)) := by simp [valsBo, h, List.getD_eq_getElem?_getD]
theorem In.keep {w w' : World} {p : Option Addr} {n c : Nat} {xs : List Nat} {S : Nat → Prop} (h : In w p n c xs) (hk : Keep S w w') (hn : ∀ a, p = some a → ¬ S a.block) : In w' p n c xs := h.same (fun a ha h0 => by
  obtain ⟨b, o, hp, hlt, _⟩ := h.at' h0
  rw [hp] at ha
  cases ha
  exact hk.block b hlt (hn _ hp))
set_option linter.unusedSimpArgs false in
set_option maxRecDepth 100000 in
set_option maxHeartbeats 4000000 in
theorem rwrite_any {w : World} {r : Nat} {V : RV} {t : RS} (h : RefIn w r V t) (i : Int) (p : Option Addr) (n' c : Nat) (xs : List Nat) (hx : In w p n' c xs) (hnp : ∀ a, p = some a → ¬ fpR r V a.block) (hw1 : t.many < 2000) (hw2 : t.wrote.length < 2000) :
    Calls Tryz.prog 78 #[.pointer (some ⟨r, 0, none⟩), .int .i64 i, .slice p n' c] w fun e w' => e = .returned (.int .i64 (rwE t i n')) ∧ ∃ V', RAfter w w' r V V' (rwS t i xs) := by
  have hh := there_any h i
  have g2 := h.blk.cell' (i := 2) (v := .bool t.gone) rfl
  have g3 := h.blk.cell' (i := 3) (v := .bool t.cut) rfl
  have g4 := h.blk.cell' (i := 4) (v := .int .i64 t.left) rfl
  have f2 := h.blk.frozen 2
  have f4 := h.blk.frozen 4
  have hroom := hx.room
  have hle := h.le
  cases hg : t.gone
  · cases hb : hasB t.secs.length i
    · have e1 : rwE t i n' = 1 := by simp [rwE, hg, hb]
      have e2 : rwS t i xs = t := by simp [rwS, hg, hb]
      rw [e1, e2]
      rw [hg] at g2
      rw [hb] at hh
      go_enter Tryz.func78, Tryz.ntmps78
      go_wp2_with (go_at_call 87; refine hh.mono ?_; rintro e w' ⟨rfl, hw'⟩; have hw2 := hw'.symm; subst hw2; clear hw')
      go_ret
      exact ⟨rfl, _, RAfter.refl h⟩
    · rw [hg] at g2
      rw [hb] at hh
      by_cases hn : n' = 256
      · subst hn
        have hl : xs.length = 256 := hx.len
        obtain ⟨k, rfl, hk⟩ := hasB_nat hb
        have hlen := h.sec.len
        obtain ⟨g, cap, hsv, _, _⟩ := owns_at h.srow (by omega)
        obtain ⟨gb, capb, hbv, _, _⟩ := owns_at h.brow (by rw [h.bl]; omega)
        obtain ⟨n, hvn⟩ : ∃ n, V.rs.length = n := ⟨_, rfl⟩
        obtain ⟨nb, hbn⟩ : ∃ nb, t.bad.length = nb := ⟨_, rfl⟩
        rw [hvn] at hsv hlen
        rw [hbn] at hbv
        have hbl := h.bl
        rw [hbn] at hbl
        have hwl : (t.wrote.map (·.1)).length = V.ws.length := by have := h.wec.len; rw [List.length_map] at this ⊢; omega
        have hwlt : V.ws.length < 100000 := by have := h.wec.len; rw [List.length_map] at this; omega
        have hkn : (k : Int) < (n : Int) := by omega
        have hknb : (k : Int) < (nb : Int) := by omega
        have hkk : k < n := by omega
        have hkkb : k < nb := by omega
        have hn8 : (n : Int) ≤ 8192 := by have := h.n2; omega
        have hnb8 : (nb : Int) ≤ 8192 := by have := h.n2; omega
        have hmi : (t.many : Int) < 2000 := by omega
        cases hc : t.cut
        · have e1 : rwE t (k : Int) 256 = 0 := by simp [rwE, hg, hb, hc]
          have e2 : rwS t (k : Int) xs = { t with secs := t.secs.set k xs, bad := t.bad.set k false, many := t.many + 1, wrote := t.wrote ++ [((k : Int), xs)] } := by simp [rwS, hg, hb, hc, hl]
          rw [e1, e2]
          rw [hc] at g3
          clear e1 e2
          go_enter Tryz.func78, Tryz.ntmps78
          go_wp2_with (go_at_call 87; refine hh.mono ?_; rintro e w' ⟨rfl, hw'⟩; have hw2 := hw'.symm; subst hw2; clear hw')
          refine wp_region_noPanic ?_
          refine wp_region_held_drew (S := fun X => X.cell? ⟨r, 0, none⟩ = some (.slice (some ⟨g, 0, none⟩) n cap)) (by kernel_rfl) (h.cell0 hsv) (fun hHeld => ?_)
          refine wpAnyH_take (i := 0) (v := ?_) rfl (by kernel_rfl) (by kernel_rfl) (by kernel_rfl) (fun _ _ _ h => h) (Or.inl ⟨by rfl, ?_⟩) hHeld ?_
          rotate_left
          · intro w' hSw; try dsimp only at hSw
            go_simp; try (with_reducible rfl)
          try simp only [Act.put, List.getElem_toArray, List.getElem_cons_succ, List.getElem_cons_zero, List.setIfInBounds_toArray, List.set_cons_zero, List.set_cons_succ]
          refine wpAnyH_take (i := 1) (v := ?_) rfl (by kernel_rfl) (by kernel_rfl) (by kernel_rfl) (fun _ _ _ h => h) (Or.inl ⟨by rfl, ?_⟩) hHeld ?_
          rotate_left
          · intro w' hSw; try dsimp only at hSw
            go_simp; try (with_reducible rfl)
          try simp only [Act.put, List.getElem_toArray, List.getElem_cons_succ, List.getElem_cons_zero, List.setIfInBounds_toArray, List.set_cons_zero, List.set_cons_succ]
          refine wpAnyH_take (i := 2) (v := ?_) rfl (by kernel_rfl) (by kernel_rfl) (by kernel_rfl) (fun _ _ _ h => h) (Or.inl ⟨by rfl, ?_⟩) hHeld ?_
          rotate_left
          · intro w' hSw; try dsimp only at hSw
            go_simp; try (with_reducible rfl)
          try simp only [Act.put, List.getElem_toArray, List.getElem_cons_succ, List.getElem_cons_zero, List.setIfInBounds_toArray, List.set_cons_zero, List.set_cons_succ]
          refine wpAnyH_take (i := 3) (v := ?_) rfl (by kernel_rfl) (by kernel_rfl) (by kernel_rfl) (fun _ _ _ h => h) (Or.inl ⟨by rfl, ?_⟩) hHeld ?_
          rotate_left
          · intro w' hSw; try dsimp only at hSw
            have h0 := hSw
            go_simp; try (with_reducible rfl)
          try simp only [Act.put, List.getElem_toArray, List.getElem_cons_succ, List.getElem_cons_zero, List.setIfInBounds_toArray, List.set_cons_zero, List.set_cons_succ]
          refine wpAnyH_take (i := 4) (v := ?_) rfl (by kernel_rfl) (by kernel_rfl) (by kernel_rfl) (fun _ _ _ h => h) (Or.inl ⟨by rfl, ?_⟩) hHeld ?_
          rotate_left
          · intro w' hSw; try dsimp only at hSw
            go_simp; try (with_reducible rfl)
          try simp only [Act.put, List.getElem_toArray, List.getElem_cons_succ, List.getElem_cons_zero, List.setIfInBounds_toArray, List.set_cons_zero, List.set_cons_succ]
          refine wpAnyH_take (i := 5) (v := ?_) rfl (by kernel_rfl) (by kernel_rfl) (by kernel_rfl) (fun _ _ _ h => h) (Or.inl ⟨by rfl, ?_⟩) hHeld ?_
          rotate_left
          · intro w' hSw; try dsimp only at hSw
            go_simp; try (with_reducible rfl)
          try simp only [Act.put, List.getElem_toArray, List.getElem_cons_succ, List.getElem_cons_zero, List.setIfInBounds_toArray, List.set_cons_zero, List.set_cons_succ]
          refine wpAnyH_ready (rs := [6]) (by kernel_rfl) (by simp) ?_
          refine AllReadyH.cons rfl (fun K hK => ?_) AllReadyH.nil
          go_simp
          refine (copied_any _ _ _ _ (hx.below ((Below.refl _ _).drew))).mono ?_
          rintro e w2 ⟨p2, c2, rfl, hin2, hb2', hu2⟩
          have hb2 : Below w.heap.size w w2 := bt ((Below.refl _ _).drew) hb2'
          try go_wp2_with fail
          refine hK.out _ _ ((h.below hb2).cell0 hsv) (fun hHeld => ?_)
          clear hK K
          try simp only [Act.put, List.getElem_toArray, List.getElem_cons_succ, List.getElem_cons_zero, List.setIfInBounds_toArray, List.set_cons_zero, List.set_cons_succ]
          refine wpAnyH_take (i := 7) (v := ?_) rfl (by kernel_rfl) (by kernel_rfl) (by kernel_rfl) (fun _ _ _ h => h) (Or.inl ⟨by rfl, ?_⟩) hHeld ?_
          rotate_left
          · intro w' hSw; try dsimp only at hSw
            go_simp; try (with_reducible rfl)
          try simp only [Act.put, List.getElem_toArray, List.getElem_cons_succ, List.getElem_cons_zero, List.setIfInBounds_toArray, List.set_cons_zero, List.set_cons_succ]
          have A2 := h.sector hb2 hin2 hu2 k (show V.sv.ownBlock = some g by rw [hsv]; rfl)
          have q2 := (h.below hb2).srow
          rw [hsv, hvn] at q2
          have cg : w2.cell? ⟨g, k, none⟩ = some (srV (V.rs.getD k ⟨none, 0, 0⟩)) := by rw [q2.cellAt k (by omega)]; exact row_get _ _ (by rw [hvn]; omega)
          have fg := q2.frozenAt k
          unfold srV at cg
          refine wpAnyH_ready (rs := [8]) (by kernel_rfl) (by simp) ?_
          refine AllReadyH.cons rfl (fun K hK => ?_) AllReadyH.nil
          go_simp
          refine hK.out _ _ (A2.ref.cell0 hsv) (fun hHeld => ?_)
          clear hK K
          try simp only [Act.put, List.getElem_toArray, List.getElem_cons_succ, List.getElem_cons_zero, List.setIfInBounds_toArray, List.set_cons_zero, List.set_cons_succ]
          refine wpAnyH_done (by kernel_rfl) ?_ _
          refine NoPanic.normal ?_
          generalize w2.setCell ⟨g, k, none⟩ (.slice p2 256 c2) = w3 at *
          clear cg fg q2 hin2 hu2 hb2' hHeld
          have A3 := A2.ref.badset k false (show V.bv.ownBlock = some gb by rw [hbv]; rfl)
          have c1 := A2.ref.blk.cell' (i := 1) (v := V.bv) rfl
          rw [hbv] at c1
          have q3 := A2.ref.brow
          have e3 : V.bv = .slice (some ⟨gb, 0, none⟩) nb capb := hbv
          dsimp only at q3
          rw [e3, hbn] at q3
          have cb : w3.cell? ⟨gb, k, none⟩ = some (.bool (t.bad.getD k false)) := by rw [q3.cellAt k (by omega)]; exact bo_get _ _ (by rw [hbn]; omega)
          have fb := q3.frozenAt k
          have c5 := A3.ref.blk.cell' (i := 5) (v := .int .i64 (t.many : Int)) rfl
          have f5 := A3.ref.blk.frozen 5
          have A4 := A3.ref.cell 5 (.int .i64 ((t.many : Int) + 1)) { t with secs := t.secs.set k xs, bad := t.bad.set k false, many := t.many + 1 } rfl rfl rfl rfl (by show t.many + 1 ≤ 2000; omega) A3.ref.lc A3.ref.le
          clear q3 e3
          go_wp2_with fail
          have T4 := (A2.trans A3).trans A4
          clear c1 cb fb c5 f5 A2 A3 hb2
          generalize (w3.setCell ⟨gb, k, none⟩ (.bool false)).setCell ⟨r, 5, none⟩ (.int .i64 ((t.many : Int) + 1)) = w4 at *
          have h4 := T4.ref
          have hx4 : In w4 p 256 c xs := hx.keep T4.keep hnp
          clear A4
          refine wp_region_noPanic ?_
          refine wp_region_held_drew (S := fun _ => True) (by kernel_rfl) trivial (fun hHeld => ?_)
          refine wpAnyH_take (i := 0) (v := ?_) rfl (by kernel_rfl) (by kernel_rfl) (by kernel_rfl) (fun _ _ _ h => h) (Or.inl ⟨by rfl, ?_⟩) hHeld ?_
          rotate_left
          · intro w' hSw; try dsimp only at hSw
            go_simp; try (with_reducible rfl)
          try simp only [Act.put, List.getElem_toArray, List.getElem_cons_succ, List.getElem_cons_zero, List.setIfInBounds_toArray, List.set_cons_zero, List.set_cons_succ]
          refine wpAnyH_take (i := 1) (v := ?_) rfl (by kernel_rfl) (by kernel_rfl) (by kernel_rfl) (fun _ _ _ h => h) (Or.inl ⟨by rfl, ?_⟩) hHeld ?_
          rotate_left
          · intro w' hSw; try dsimp only at hSw
            go_simp; try (with_reducible rfl)
          try simp only [Act.put, List.getElem_toArray, List.getElem_cons_succ, List.getElem_cons_zero, List.setIfInBounds_toArray, List.set_cons_zero, List.set_cons_succ]
          refine wpAnyH_take (i := 2) (v := ?_) rfl (by kernel_rfl) (by kernel_rfl) (by kernel_rfl) (fun _ _ _ h => h) (Or.inl ⟨by rfl, ?_⟩) hHeld ?_
          rotate_left
          · intro w' hSw; try dsimp only at hSw
            go_simp; try (with_reducible rfl)
          try simp only [Act.put, List.getElem_toArray, List.getElem_cons_succ, List.getElem_cons_zero, List.setIfInBounds_toArray, List.set_cons_zero, List.set_cons_succ]
          refine wpAnyH_take (i := 3) (v := ?_) rfl (by kernel_rfl) (by kernel_rfl) (by kernel_rfl) (fun _ _ _ h => h) (Or.inl ⟨by rfl, ?_⟩) hHeld ?_
          rotate_left
          · intro w' hSw; try dsimp only at hSw
            go_simp; try (with_reducible rfl)
          try simp only [Act.put, List.getElem_toArray, List.getElem_cons_succ, List.getElem_cons_zero, List.setIfInBounds_toArray, List.set_cons_zero, List.set_cons_succ]
          refine wpAnyH_take (i := 5) (v := ?_) rfl (by kernel_rfl) (by kernel_rfl) (by kernel_rfl) (fun _ _ _ h => h) (Or.inl ⟨by rfl, ?_⟩) hHeld ?_
          rotate_left
          · intro w' hSw; try dsimp only at hSw
            go_simp; try (with_reducible rfl)
          try simp only [Act.put, List.getElem_toArray, List.getElem_cons_succ, List.getElem_cons_zero, List.setIfInBounds_toArray, List.set_cons_zero, List.set_cons_succ]
          refine wpAnyH_take (i := 6) (v := ?_) rfl (by kernel_rfl) (by kernel_rfl) (by kernel_rfl) (fun _ _ _ h => h) (Or.inl ⟨by rfl, ?_⟩) hHeld ?_
          rotate_left
          · intro w' hSw; try dsimp only at hSw
            go_simp; try (with_reducible rfl)
          try simp only [Act.put, List.getElem_toArray, List.getElem_cons_succ, List.getElem_cons_zero, List.setIfInBounds_toArray, List.set_cons_zero, List.set_cons_succ]
          refine wpAnyH_ready (rs := [4, 7]) (by kernel_rfl) (by simp) ?_
          refine AllReadyH.cons rfl (fun K hK => ?_) ?_
          · have c0 : (w4.drew).cell? ⟨r, 6, none⟩ = some V.wv := h4.blk.cell' rfl
            go_simp
            refine hK.out _ _ trivial (fun hHeld => ?_)
            clear hK K
            try simp only [Act.put, List.getElem_toArray, List.getElem_cons_succ, List.getElem_cons_zero, List.setIfInBounds_toArray, List.set_cons_zero, List.set_cons_succ]
            refine wpAnyH_ready (rs := [7]) (by kernel_rfl) (by simp) ?_
            refine AllReadyH.cons rfl (fun K hK => ?_) AllReadyH.nil
            go_simp
            refine (copied_any _ _ _ _ (hx4.below ((Below.refl _ _).drew))).mono ?_
            rintro e w6 ⟨p6, c6, rfl, hin6, hb6', hu6⟩
            have hb6 : Below w4.heap.size w4 w6 := bt ((Below.refl _ w4).drew) hb6'
            have hbA : Below w4.heap.size w4 (w6.alloc (.cells #[.int .i64 (k : Int), .slice p6 256 c6] 124)) := bt hb6 (below_alloc w6 _)
            try go_wp2_with fail
            refine hK.out _ _ trivial (fun hHeld => ?_)
            clear hK K
            try simp only [Act.put, List.getElem_toArray, List.getElem_cons_succ, List.getElem_cons_zero, List.setIfInBounds_toArray, List.set_cons_zero, List.set_cons_succ]
            refine wpAnyH_take (i := 8) (v := ?_) rfl (by kernel_rfl) (by kernel_rfl) (by kernel_rfl) (fun _ _ _ h => h) (Or.inl ⟨by rfl, ?_⟩) hHeld ?_
            rotate_left
            · intro w' hSw; try dsimp only at hSw
              go_simp; try (with_reducible rfl)
            try simp only [Act.put, List.getElem_toArray, List.getElem_cons_succ, List.getElem_cons_zero, List.setIfInBounds_toArray, List.set_cons_zero, List.set_cons_succ]
            refine wpAnyH_ready (rs := [9]) (by kernel_rfl) (by simp) ?_
            refine AllReadyH.cons rfl (fun K hK => ?_) AllReadyH.nil
            go_simp
            refine hK.out _ _ trivial (fun hHeld => ?_)
            clear hK K
            try simp only [Act.put, List.getElem_toArray, List.getElem_cons_succ, List.getElem_cons_zero, List.setIfInBounds_toArray, List.set_cons_zero, List.set_cons_succ]
            refine wpAnyH_ready (rs := [10]) (by kernel_rfl) (by simp) ?_
            refine AllReadyH.cons rfl (fun K hK => ?_) AllReadyH.nil
            rw [if_pos (by rfl)]
            refine wp_appendR (.tmp 70) (.tmp 75) rfl V.wv (t.wrote.map (·.1)) V.ws hwl rfl (h4.below hbA).wrow w6.heap.size (k : Int) ⟨p6, 256, c6⟩ rfl (Blk.new' w6 124 #[.int .i64 (k : Int), .slice p6 256 c6]) (by omega) ?_
            intro p1 c1 w7 hp1 hg1 hat1
            have L := h4.logged hbA (hin6.below (below_alloc w6 _)) (hu6.below (below_alloc w6 _)) (k : Int) hg1 hp1 hat1 hw2
            have c6' := L.1.cell' (i := 6) (v := V.wv) rfl
            have f6 := L.1.frozen 6
            refine hK.out _ _ trivial (fun hHeld => ?_)
            clear hK K
            try simp only [Act.put, List.getElem_toArray, List.getElem_cons_succ, List.getElem_cons_zero, List.setIfInBounds_toArray, List.set_cons_zero, List.set_cons_succ]
            refine wpAnyH_take (i := 11) (v := ?_) rfl (by kernel_rfl) (by kernel_rfl) (by kernel_rfl) (fun _ _ _ h => h) (Or.inl ⟨by rfl, ?_⟩) hHeld ?_
            rotate_left
            · intro w' hSw; try dsimp only at hSw
              go_simp; try (with_reducible rfl)
            try simp only [Act.put, List.getElem_toArray, List.getElem_cons_succ, List.getElem_cons_zero, List.setIfInBounds_toArray, List.set_cons_zero, List.set_cons_succ]
            refine wpAnyH_take (i := 12) (v := ?_) rfl (by kernel_rfl) (by kernel_rfl) (by kernel_rfl) (fun _ _ _ h => h) (Or.inl ⟨by rfl, ?_⟩) hHeld ?_
            rotate_left
            · intro w' hSw; try dsimp only at hSw
              go_simp; try (with_reducible rfl)
            try simp only [Act.put, List.getElem_toArray, List.getElem_cons_succ, List.getElem_cons_zero, List.setIfInBounds_toArray, List.set_cons_zero, List.set_cons_succ]
            refine wpAnyH_ready (rs := [13]) (by kernel_rfl) (by simp) ?_
            refine AllReadyH.cons rfl (fun K hK => ?_) AllReadyH.nil
            go_simp
            refine hK.out _ _ trivial (fun hHeld => ?_)
            clear hK K
            try simp only [Act.put, List.getElem_toArray, List.getElem_cons_succ, List.getElem_cons_zero, List.setIfInBounds_toArray, List.set_cons_zero, List.set_cons_succ]
            refine wpAnyH_done (by kernel_rfl) ?_ _
            refine NoPanic.normal ?_
            go_wp2_with fail
            go_ret
            have q := T4.trans L.2
            rw [hg, hc] at q
            exact ⟨rfl, _, q⟩
          refine AllReadyH.cons rfl (fun K hK => ?_) AllReadyH.nil
          go_simp
          refine (copied_any _ _ _ _ (hx4.below ((Below.refl _ _).drew))).mono ?_
          rintro e w6 ⟨p6, c6, rfl, hin6, hb6', hu6⟩
          have hb6 : Below w4.heap.size w4 w6 := bt ((Below.refl _ w4).drew) hb6'
          have hbA : Below w4.heap.size w4 (w6.alloc (.cells #[.int .i64 (k : Int), .slice p6 256 c6] 124)) := bt hb6 (below_alloc w6 _)
          try go_wp2_with fail
          refine hK.out _ _ trivial (fun hHeld => ?_)
          clear hK K
          try simp only [Act.put, List.getElem_toArray, List.getElem_cons_succ, List.getElem_cons_zero, List.setIfInBounds_toArray, List.set_cons_zero, List.set_cons_succ]
          refine wpAnyH_take (i := 8) (v := ?_) rfl (by kernel_rfl) (by kernel_rfl) (by kernel_rfl) (fun _ _ _ h => h) (Or.inl ⟨by rfl, ?_⟩) hHeld ?_
          rotate_left
          · intro w' hSw; try dsimp only at hSw
            go_simp; try (with_reducible rfl)
          try simp only [Act.put, List.getElem_toArray, List.getElem_cons_succ, List.getElem_cons_zero, List.setIfInBounds_toArray, List.set_cons_zero, List.set_cons_succ]
          refine wpAnyH_ready (rs := [4, 9]) (by kernel_rfl) (by simp) ?_
          refine AllReadyH.cons rfl (fun K hK => ?_) ?_
          · have c0 : (w6).cell? ⟨r, 6, none⟩ = some V.wv := (h4.below hb6).blk.cell' rfl
            go_simp
            refine hK.out _ _ trivial (fun hHeld => ?_)
            clear hK K
            try simp only [Act.put, List.getElem_toArray, List.getElem_cons_succ, List.getElem_cons_zero, List.setIfInBounds_toArray, List.set_cons_zero, List.set_cons_succ]
            refine wpAnyH_ready (rs := [9]) (by kernel_rfl) (by simp) ?_
            refine AllReadyH.cons rfl (fun K hK => ?_) AllReadyH.nil
            go_simp
            refine hK.out _ _ trivial (fun hHeld => ?_)
            clear hK K
            try simp only [Act.put, List.getElem_toArray, List.getElem_cons_succ, List.getElem_cons_zero, List.setIfInBounds_toArray, List.set_cons_zero, List.set_cons_succ]
            refine wpAnyH_ready (rs := [10]) (by kernel_rfl) (by simp) ?_
            refine AllReadyH.cons rfl (fun K hK => ?_) AllReadyH.nil
            rw [if_pos (by rfl)]
            refine wp_appendR (.tmp 70) (.tmp 75) rfl V.wv (t.wrote.map (·.1)) V.ws hwl rfl (h4.below hbA).wrow w6.heap.size (k : Int) ⟨p6, 256, c6⟩ rfl (Blk.new' w6 124 #[.int .i64 (k : Int), .slice p6 256 c6]) (by omega) ?_
            intro p1 c1 w7 hp1 hg1 hat1
            have L := h4.logged hbA (hin6.below (below_alloc w6 _)) (hu6.below (below_alloc w6 _)) (k : Int) hg1 hp1 hat1 hw2
            have c6' := L.1.cell' (i := 6) (v := V.wv) rfl
            have f6 := L.1.frozen 6
            refine hK.out _ _ trivial (fun hHeld => ?_)
            clear hK K
            try simp only [Act.put, List.getElem_toArray, List.getElem_cons_succ, List.getElem_cons_zero, List.setIfInBounds_toArray, List.set_cons_zero, List.set_cons_succ]
            refine wpAnyH_take (i := 11) (v := ?_) rfl (by kernel_rfl) (by kernel_rfl) (by kernel_rfl) (fun _ _ _ h => h) (Or.inl ⟨by rfl, ?_⟩) hHeld ?_
            rotate_left
            · intro w' hSw; try dsimp only at hSw
              go_simp; try (with_reducible rfl)
            try simp only [Act.put, List.getElem_toArray, List.getElem_cons_succ, List.getElem_cons_zero, List.setIfInBounds_toArray, List.set_cons_zero, List.set_cons_succ]
            refine wpAnyH_take (i := 12) (v := ?_) rfl (by kernel_rfl) (by kernel_rfl) (by kernel_rfl) (fun _ _ _ h => h) (Or.inl ⟨by rfl, ?_⟩) hHeld ?_
            rotate_left
            · intro w' hSw; try dsimp only at hSw
              go_simp; try (with_reducible rfl)
            try simp only [Act.put, List.getElem_toArray, List.getElem_cons_succ, List.getElem_cons_zero, List.setIfInBounds_toArray, List.set_cons_zero, List.set_cons_succ]
            refine wpAnyH_ready (rs := [13]) (by kernel_rfl) (by simp) ?_
            refine AllReadyH.cons rfl (fun K hK => ?_) AllReadyH.nil
            go_simp
            refine hK.out _ _ trivial (fun hHeld => ?_)
            clear hK K
            try simp only [Act.put, List.getElem_toArray, List.getElem_cons_succ, List.getElem_cons_zero, List.setIfInBounds_toArray, List.set_cons_zero, List.set_cons_succ]
            refine wpAnyH_done (by kernel_rfl) ?_ _
            refine NoPanic.normal ?_
            go_wp2_with fail
            go_ret
            have q := T4.trans L.2
            rw [hg, hc] at q
            exact ⟨rfl, _, q⟩
          refine AllReadyH.cons rfl (fun K hK => ?_) AllReadyH.nil
          go_simp
          refine hK.out _ _ trivial (fun hHeld => ?_)
          clear hK K
          try simp only [Act.put, List.getElem_toArray, List.getElem_cons_succ, List.getElem_cons_zero, List.setIfInBounds_toArray, List.set_cons_zero, List.set_cons_succ]
          refine wpAnyH_ready (rs := [4]) (by kernel_rfl) (by simp) ?_
          refine AllReadyH.cons rfl (fun K hK => ?_) AllReadyH.nil
          have c0 : (w6.alloc (.cells #[.int .i64 (k : Int), .slice p6 256 c6] 124)).cell? ⟨r, 6, none⟩ = some V.wv := (h4.below hbA).blk.cell' rfl
          go_simp
          refine hK.out _ _ trivial (fun hHeld => ?_)
          clear hK K
          try simp only [Act.put, List.getElem_toArray, List.getElem_cons_succ, List.getElem_cons_zero, List.setIfInBounds_toArray, List.set_cons_zero, List.set_cons_succ]
          refine wpAnyH_ready (rs := [10]) (by kernel_rfl) (by simp) ?_
          refine AllReadyH.cons rfl (fun K hK => ?_) AllReadyH.nil
          rw [if_pos (by rfl)]
          refine wp_appendR (.tmp 70) (.tmp 75) rfl V.wv (t.wrote.map (·.1)) V.ws hwl rfl (h4.below hbA).wrow w6.heap.size (k : Int) ⟨p6, 256, c6⟩ rfl (Blk.new' w6 124 #[.int .i64 (k : Int), .slice p6 256 c6]) (by omega) ?_
          intro p1 c1 w7 hp1 hg1 hat1
          have L := h4.logged hbA (hin6.below (below_alloc w6 _)) (hu6.below (below_alloc w6 _)) (k : Int) hg1 hp1 hat1 hw2
          have c6' := L.1.cell' (i := 6) (v := V.wv) rfl
          have f6 := L.1.frozen 6
          refine hK.out _ _ trivial (fun hHeld => ?_)
          clear hK K
          try simp only [Act.put, List.getElem_toArray, List.getElem_cons_succ, List.getElem_cons_zero, List.setIfInBounds_toArray, List.set_cons_zero, List.set_cons_succ]
          refine wpAnyH_take (i := 11) (v := ?_) rfl (by kernel_rfl) (by kernel_rfl) (by kernel_rfl) (fun _ _ _ h => h) (Or.inl ⟨by rfl, ?_⟩) hHeld ?_
          rotate_left
          · intro w' hSw; try dsimp only at hSw
            go_simp; try (with_reducible rfl)
          try simp only [Act.put, List.getElem_toArray, List.getElem_cons_succ, List.getElem_cons_zero, List.setIfInBounds_toArray, List.set_cons_zero, List.set_cons_succ]
          refine wpAnyH_take (i := 12) (v := ?_) rfl (by kernel_rfl) (by kernel_rfl) (by kernel_rfl) (fun _ _ _ h => h) (Or.inl ⟨by rfl, ?_⟩) hHeld ?_
          rotate_left
          · intro w' hSw; try dsimp only at hSw
            go_simp; try (with_reducible rfl)
          try simp only [Act.put, List.getElem_toArray, List.getElem_cons_succ, List.getElem_cons_zero, List.setIfInBounds_toArray, List.set_cons_zero, List.set_cons_succ]
          refine wpAnyH_ready (rs := [13]) (by kernel_rfl) (by simp) ?_
          refine AllReadyH.cons rfl (fun K hK => ?_) AllReadyH.nil
          go_simp
          refine hK.out _ _ trivial (fun hHeld => ?_)
          clear hK K
          try simp only [Act.put, List.getElem_toArray, List.getElem_cons_succ, List.getElem_cons_zero, List.setIfInBounds_toArray, List.set_cons_zero, List.set_cons_succ]
          refine wpAnyH_done (by kernel_rfl) ?_ _
          refine NoPanic.normal ?_
          go_wp2_with fail
          go_ret
          have q := T4.trans L.2
          rw [hg, hc] at q
          exact ⟨rfl, _, q⟩
        · rw [hc] at g3
          by_cases h0 : t.left = 0
          · have e1 : rwE t (k : Int) 256 = 8 := by simp [rwE, hg, hb, hc, h0]
            have e2 : rwS t (k : Int) xs = { t with gone := true } := by simp [rwS, hg, hb, hc, h0, hl]
            rw [e1, e2]
            rw [h0] at g4
            have A := h.cell 2 (.bool true) { t with gone := true } rfl rfl rfl rfl h.lim h.lc h.le
            go_enter Tryz.func78, Tryz.ntmps78
            go_wp2_with (go_at_call 87; refine hh.mono ?_; rintro e w' ⟨rfl, hw'⟩; have hw2 := hw'.symm; subst hw2; clear hw')
            go_ret
            exact ⟨rfl, _, A⟩
          · have hlp := h.lc hc
            have e1 : rwE t (k : Int) 256 = 0 := by simp [rwE, hg, hb, hc, h0]
            have e2 : rwS t (k : Int) xs = { t with left := t.left - 1, secs := t.secs.set k xs, bad := t.bad.set k false, many := t.many + 1, wrote := t.wrote ++ [((k : Int), xs)] } := by simp [rwS, hg, hb, hc, h0, hl]
            rw [e1, e2]
            clear e1 e2
            have A1 := h.cell 4 (.int .i64 (t.left - 1)) { t with left := t.left - 1 } rfl rfl rfl rfl h.lim (fun _ => by show 0 ≤ t.left - 1; omega) ⟨by show -9223372036854775808 ≤ t.left - 1; omega, by show t.left - 1 ≤ 9223372036854775807; omega⟩
            have hxA : In (w.setCell ⟨r, 4, none⟩ (.int .i64 (t.left - 1))) p 256 c xs := hx.keep A1.keep hnp
            have hz : (t.left == 0) = false := by simp [h0]
            go_enter Tryz.func78, Tryz.ntmps78
            go_wp2_with (go_at_call 87; refine hh.mono ?_; rintro e w' ⟨rfl, hw'⟩; have hw2 := hw'.symm; subst hw2; clear hw')
            generalize w.setCell ⟨r, 4, none⟩ (.int .i64 (t.left - 1)) = wA at *
            have hA := A1.ref
            refine wp_region_noPanic ?_
            refine wp_region_held_drew (S := fun X => X.cell? ⟨r, 0, none⟩ = some (.slice (some ⟨g, 0, none⟩) n cap)) (by kernel_rfl) (hA.cell0 hsv) (fun hHeld => ?_)
            refine wpAnyH_take (i := 0) (v := ?_) rfl (by kernel_rfl) (by kernel_rfl) (by kernel_rfl) (fun _ _ _ h => h) (Or.inl ⟨by rfl, ?_⟩) hHeld ?_
            rotate_left
            · intro w' hSw; try dsimp only at hSw
              go_simp; try (with_reducible rfl)
            try simp only [Act.put, List.getElem_toArray, List.getElem_cons_succ, List.getElem_cons_zero, List.setIfInBounds_toArray, List.set_cons_zero, List.set_cons_succ]
            refine wpAnyH_take (i := 1) (v := ?_) rfl (by kernel_rfl) (by kernel_rfl) (by kernel_rfl) (fun _ _ _ h => h) (Or.inl ⟨by rfl, ?_⟩) hHeld ?_
            rotate_left
            · intro w' hSw; try dsimp only at hSw
              go_simp; try (with_reducible rfl)
            try simp only [Act.put, List.getElem_toArray, List.getElem_cons_succ, List.getElem_cons_zero, List.setIfInBounds_toArray, List.set_cons_zero, List.set_cons_succ]
            refine wpAnyH_take (i := 2) (v := ?_) rfl (by kernel_rfl) (by kernel_rfl) (by kernel_rfl) (fun _ _ _ h => h) (Or.inl ⟨by rfl, ?_⟩) hHeld ?_
            rotate_left
            · intro w' hSw; try dsimp only at hSw
              go_simp; try (with_reducible rfl)
            try simp only [Act.put, List.getElem_toArray, List.getElem_cons_succ, List.getElem_cons_zero, List.setIfInBounds_toArray, List.set_cons_zero, List.set_cons_succ]
            refine wpAnyH_take (i := 3) (v := ?_) rfl (by kernel_rfl) (by kernel_rfl) (by kernel_rfl) (fun _ _ _ h => h) (Or.inl ⟨by rfl, ?_⟩) hHeld ?_
            rotate_left
            · intro w' hSw; try dsimp only at hSw
              have h0 := hSw
              go_simp; try (with_reducible rfl)
            try simp only [Act.put, List.getElem_toArray, List.getElem_cons_succ, List.getElem_cons_zero, List.setIfInBounds_toArray, List.set_cons_zero, List.set_cons_succ]
            refine wpAnyH_take (i := 4) (v := ?_) rfl (by kernel_rfl) (by kernel_rfl) (by kernel_rfl) (fun _ _ _ h => h) (Or.inl ⟨by rfl, ?_⟩) hHeld ?_
            rotate_left
            · intro w' hSw; try dsimp only at hSw
              go_simp; try (with_reducible rfl)
            try simp only [Act.put, List.getElem_toArray, List.getElem_cons_succ, List.getElem_cons_zero, List.setIfInBounds_toArray, List.set_cons_zero, List.set_cons_succ]
            refine wpAnyH_take (i := 5) (v := ?_) rfl (by kernel_rfl) (by kernel_rfl) (by kernel_rfl) (fun _ _ _ h => h) (Or.inl ⟨by rfl, ?_⟩) hHeld ?_
            rotate_left
            · intro w' hSw; try dsimp only at hSw
              go_simp; try (with_reducible rfl)
            try simp only [Act.put, List.getElem_toArray, List.getElem_cons_succ, List.getElem_cons_zero, List.setIfInBounds_toArray, List.set_cons_zero, List.set_cons_succ]
            refine wpAnyH_ready (rs := [6]) (by kernel_rfl) (by simp) ?_
            refine AllReadyH.cons rfl (fun K hK => ?_) AllReadyH.nil
            go_simp
            refine (copied_any _ _ _ _ (hxA.below ((Below.refl _ _).drew))).mono ?_
            rintro e w2 ⟨p2, c2, rfl, hin2, hb2', hu2⟩
            have hb2 : Below wA.heap.size wA w2 := bt ((Below.refl _ _).drew) hb2'
            try go_wp2_with fail
            refine hK.out _ _ ((hA.below hb2).cell0 hsv) (fun hHeld => ?_)
            clear hK K
            try simp only [Act.put, List.getElem_toArray, List.getElem_cons_succ, List.getElem_cons_zero, List.setIfInBounds_toArray, List.set_cons_zero, List.set_cons_succ]
            refine wpAnyH_take (i := 7) (v := ?_) rfl (by kernel_rfl) (by kernel_rfl) (by kernel_rfl) (fun _ _ _ h => h) (Or.inl ⟨by rfl, ?_⟩) hHeld ?_
            rotate_left
            · intro w' hSw; try dsimp only at hSw
              go_simp; try (with_reducible rfl)
            try simp only [Act.put, List.getElem_toArray, List.getElem_cons_succ, List.getElem_cons_zero, List.setIfInBounds_toArray, List.set_cons_zero, List.set_cons_succ]
            have A2 := hA.sector hb2 hin2 hu2 k (show V.sv.ownBlock = some g by rw [hsv]; rfl)
            have q2 := (hA.below hb2).srow
            rw [hsv, hvn] at q2
            have cg : w2.cell? ⟨g, k, none⟩ = some (srV (V.rs.getD k ⟨none, 0, 0⟩)) := by rw [q2.cellAt k (by omega)]; exact row_get _ _ (by rw [hvn]; omega)
            have fg := q2.frozenAt k
            unfold srV at cg
            refine wpAnyH_ready (rs := [8]) (by kernel_rfl) (by simp) ?_
            refine AllReadyH.cons rfl (fun K hK => ?_) AllReadyH.nil
            go_simp
            refine hK.out _ _ (A2.ref.cell0 hsv) (fun hHeld => ?_)
            clear hK K
            try simp only [Act.put, List.getElem_toArray, List.getElem_cons_succ, List.getElem_cons_zero, List.setIfInBounds_toArray, List.set_cons_zero, List.set_cons_succ]
            refine wpAnyH_done (by kernel_rfl) ?_ _
            refine NoPanic.normal ?_
            generalize w2.setCell ⟨g, k, none⟩ (.slice p2 256 c2) = w3 at *
            clear cg fg q2 hin2 hu2 hb2' hHeld
            have A3 := A2.ref.badset k false (show V.bv.ownBlock = some gb by rw [hbv]; rfl)
            have c1 := A2.ref.blk.cell' (i := 1) (v := V.bv) rfl
            rw [hbv] at c1
            have q3 := A2.ref.brow
            have e3 : V.bv = .slice (some ⟨gb, 0, none⟩) nb capb := hbv
            dsimp only at q3
            rw [e3, hbn] at q3
            have cb : w3.cell? ⟨gb, k, none⟩ = some (.bool (t.bad.getD k false)) := by rw [q3.cellAt k (by omega)]; exact bo_get _ _ (by rw [hbn]; omega)
            have fb := q3.frozenAt k
            have c5 := A3.ref.blk.cell' (i := 5) (v := .int .i64 (t.many : Int)) rfl
            have f5 := A3.ref.blk.frozen 5
            have A4 := A3.ref.cell 5 (.int .i64 ((t.many : Int) + 1)) { { t with left := t.left - 1 } with secs := t.secs.set k xs, bad := t.bad.set k false, many := t.many + 1 } rfl rfl rfl rfl (by show t.many + 1 ≤ 2000; omega) A3.ref.lc A3.ref.le
            clear q3 e3
            go_wp2_with fail
            have T4 := (A2.trans A3).trans A4
            clear c1 cb fb c5 f5 A2 A3 hb2
            generalize (w3.setCell ⟨gb, k, none⟩ (.bool false)).setCell ⟨r, 5, none⟩ (.int .i64 ((t.many : Int) + 1)) = w4 at *
            have h4 := T4.ref
            have hx4 : In w4 p 256 c xs := hxA.keep T4.keep hnp
            clear A4
            refine wp_region_noPanic ?_
            refine wp_region_held_drew (S := fun _ => True) (by kernel_rfl) trivial (fun hHeld => ?_)
            refine wpAnyH_take (i := 0) (v := ?_) rfl (by kernel_rfl) (by kernel_rfl) (by kernel_rfl) (fun _ _ _ h => h) (Or.inl ⟨by rfl, ?_⟩) hHeld ?_
            rotate_left
            · intro w' hSw; try dsimp only at hSw
              go_simp; try (with_reducible rfl)
            try simp only [Act.put, List.getElem_toArray, List.getElem_cons_succ, List.getElem_cons_zero, List.setIfInBounds_toArray, List.set_cons_zero, List.set_cons_succ]
            refine wpAnyH_take (i := 1) (v := ?_) rfl (by kernel_rfl) (by kernel_rfl) (by kernel_rfl) (fun _ _ _ h => h) (Or.inl ⟨by rfl, ?_⟩) hHeld ?_
            rotate_left
            · intro w' hSw; try dsimp only at hSw
              go_simp; try (with_reducible rfl)
            try simp only [Act.put, List.getElem_toArray, List.getElem_cons_succ, List.getElem_cons_zero, List.setIfInBounds_toArray, List.set_cons_zero, List.set_cons_succ]
            refine wpAnyH_take (i := 2) (v := ?_) rfl (by kernel_rfl) (by kernel_rfl) (by kernel_rfl) (fun _ _ _ h => h) (Or.inl ⟨by rfl, ?_⟩) hHeld ?_
            rotate_left
            · intro w' hSw; try dsimp only at hSw
              go_simp; try (with_reducible rfl)
            try simp only [Act.put, List.getElem_toArray, List.getElem_cons_succ, List.getElem_cons_zero, List.setIfInBounds_toArray, List.set_cons_zero, List.set_cons_succ]
            refine wpAnyH_take (i := 3) (v := ?_) rfl (by kernel_rfl) (by kernel_rfl) (by kernel_rfl) (fun _ _ _ h => h) (Or.inl ⟨by rfl, ?_⟩) hHeld ?_
            rotate_left
            · intro w' hSw; try dsimp only at hSw
              go_simp; try (with_reducible rfl)
            try simp only [Act.put, List.getElem_toArray, List.getElem_cons_succ, List.getElem_cons_zero, List.setIfInBounds_toArray, List.set_cons_zero, List.set_cons_succ]
            refine wpAnyH_take (i := 5) (v := ?_) rfl (by kernel_rfl) (by kernel_rfl) (by kernel_rfl) (fun _ _ _ h => h) (Or.inl ⟨by rfl, ?_⟩) hHeld ?_
            rotate_left
            · intro w' hSw; try dsimp only at hSw
              go_simp; try (with_reducible rfl)
            try simp only [Act.put, List.getElem_toArray, List.getElem_cons_succ, List.getElem_cons_zero, List.setIfInBounds_toArray, List.set_cons_zero, List.set_cons_succ]
            refine wpAnyH_take (i := 6) (v := ?_) rfl (by kernel_rfl) (by kernel_rfl) (by kernel_rfl) (fun _ _ _ h => h) (Or.inl ⟨by rfl, ?_⟩) hHeld ?_
            rotate_left
            · intro w' hSw; try dsimp only at hSw
              go_simp; try (with_reducible rfl)
            try simp only [Act.put, List.getElem_toArray, List.getElem_cons_succ, List.getElem_cons_zero, List.setIfInBounds_toArray, List.set_cons_zero, List.set_cons_succ]
            refine wpAnyH_ready (rs := [4, 7]) (by kernel_rfl) (by simp) ?_
            refine AllReadyH.cons rfl (fun K hK => ?_) ?_
            · have c0 : (w4.drew).cell? ⟨r, 6, none⟩ = some V.wv := h4.blk.cell' rfl
              go_simp
              refine hK.out _ _ trivial (fun hHeld => ?_)
              clear hK K
              try simp only [Act.put, List.getElem_toArray, List.getElem_cons_succ, List.getElem_cons_zero, List.setIfInBounds_toArray, List.set_cons_zero, List.set_cons_succ]
              refine wpAnyH_ready (rs := [7]) (by kernel_rfl) (by simp) ?_
              refine AllReadyH.cons rfl (fun K hK => ?_) AllReadyH.nil
              go_simp
              refine (copied_any _ _ _ _ (hx4.below ((Below.refl _ _).drew))).mono ?_
              rintro e w6 ⟨p6, c6, rfl, hin6, hb6', hu6⟩
              have hb6 : Below w4.heap.size w4 w6 := bt ((Below.refl _ w4).drew) hb6'
              have hbA : Below w4.heap.size w4 (w6.alloc (.cells #[.int .i64 (k : Int), .slice p6 256 c6] 124)) := bt hb6 (below_alloc w6 _)
              try go_wp2_with fail
              refine hK.out _ _ trivial (fun hHeld => ?_)
              clear hK K
              try simp only [Act.put, List.getElem_toArray, List.getElem_cons_succ, List.getElem_cons_zero, List.setIfInBounds_toArray, List.set_cons_zero, List.set_cons_succ]
              refine wpAnyH_take (i := 8) (v := ?_) rfl (by kernel_rfl) (by kernel_rfl) (by kernel_rfl) (fun _ _ _ h => h) (Or.inl ⟨by rfl, ?_⟩) hHeld ?_
              rotate_left
              · intro w' hSw; try dsimp only at hSw
                go_simp; try (with_reducible rfl)
              try simp only [Act.put, List.getElem_toArray, List.getElem_cons_succ, List.getElem_cons_zero, List.setIfInBounds_toArray, List.set_cons_zero, List.set_cons_succ]
              refine wpAnyH_ready (rs := [9]) (by kernel_rfl) (by simp) ?_
              refine AllReadyH.cons rfl (fun K hK => ?_) AllReadyH.nil
              go_simp
              refine hK.out _ _ trivial (fun hHeld => ?_)
              clear hK K
              try simp only [Act.put, List.getElem_toArray, List.getElem_cons_succ, List.getElem_cons_zero, List.setIfInBounds_toArray, List.set_cons_zero, List.set_cons_succ]
              refine wpAnyH_ready (rs := [10]) (by kernel_rfl) (by simp) ?_
              refine AllReadyH.cons rfl (fun K hK => ?_) AllReadyH.nil
              rw [if_pos (by rfl)]
              refine wp_appendR (.tmp 70) (.tmp 75) rfl V.wv (t.wrote.map (·.1)) V.ws hwl rfl (h4.below hbA).wrow w6.heap.size (k : Int) ⟨p6, 256, c6⟩ rfl (Blk.new' w6 124 #[.int .i64 (k : Int), .slice p6 256 c6]) (by omega) ?_
              intro p1 c1 w7 hp1 hg1 hat1
              have L := h4.logged hbA (hin6.below (below_alloc w6 _)) (hu6.below (below_alloc w6 _)) (k : Int) hg1 hp1 hat1 hw2
              have c6' := L.1.cell' (i := 6) (v := V.wv) rfl
              have f6 := L.1.frozen 6
              refine hK.out _ _ trivial (fun hHeld => ?_)
              clear hK K
              try simp only [Act.put, List.getElem_toArray, List.getElem_cons_succ, List.getElem_cons_zero, List.setIfInBounds_toArray, List.set_cons_zero, List.set_cons_succ]
              refine wpAnyH_take (i := 11) (v := ?_) rfl (by kernel_rfl) (by kernel_rfl) (by kernel_rfl) (fun _ _ _ h => h) (Or.inl ⟨by rfl, ?_⟩) hHeld ?_
              rotate_left
              · intro w' hSw; try dsimp only at hSw
                go_simp; try (with_reducible rfl)
              try simp only [Act.put, List.getElem_toArray, List.getElem_cons_succ, List.getElem_cons_zero, List.setIfInBounds_toArray, List.set_cons_zero, List.set_cons_succ]
              refine wpAnyH_take (i := 12) (v := ?_) rfl (by kernel_rfl) (by kernel_rfl) (by kernel_rfl) (fun _ _ _ h => h) (Or.inl ⟨by rfl, ?_⟩) hHeld ?_
              rotate_left
              · intro w' hSw; try dsimp only at hSw
                go_simp; try (with_reducible rfl)
              try simp only [Act.put, List.getElem_toArray, List.getElem_cons_succ, List.getElem_cons_zero, List.setIfInBounds_toArray, List.set_cons_zero, List.set_cons_succ]
              refine wpAnyH_ready (rs := [13]) (by kernel_rfl) (by simp) ?_
              refine AllReadyH.cons rfl (fun K hK => ?_) AllReadyH.nil
              go_simp
              refine hK.out _ _ trivial (fun hHeld => ?_)
              clear hK K
              try simp only [Act.put, List.getElem_toArray, List.getElem_cons_succ, List.getElem_cons_zero, List.setIfInBounds_toArray, List.set_cons_zero, List.set_cons_succ]
              refine wpAnyH_done (by kernel_rfl) ?_ _
              refine NoPanic.normal ?_
              go_wp2_with fail
              go_ret
              have q := A1.trans (T4.trans L.2)
              rw [hg, hc] at q
              exact ⟨rfl, _, q⟩
            refine AllReadyH.cons rfl (fun K hK => ?_) AllReadyH.nil
            go_simp
            refine (copied_any _ _ _ _ (hx4.below ((Below.refl _ _).drew))).mono ?_
            rintro e w6 ⟨p6, c6, rfl, hin6, hb6', hu6⟩
            have hb6 : Below w4.heap.size w4 w6 := bt ((Below.refl _ w4).drew) hb6'
            have hbA : Below w4.heap.size w4 (w6.alloc (.cells #[.int .i64 (k : Int), .slice p6 256 c6] 124)) := bt hb6 (below_alloc w6 _)
            try go_wp2_with fail
            refine hK.out _ _ trivial (fun hHeld => ?_)
            clear hK K
            try simp only [Act.put, List.getElem_toArray, List.getElem_cons_succ, List.getElem_cons_zero, List.setIfInBounds_toArray, List.set_cons_zero, List.set_cons_succ]
            refine wpAnyH_take (i := 8) (v := ?_) rfl (by kernel_rfl) (by kernel_rfl) (by kernel_rfl) (fun _ _ _ h => h) (Or.inl ⟨by rfl, ?_⟩) hHeld ?_
            rotate_left
            · intro w' hSw; try dsimp only at hSw
              go_simp; try (with_reducible rfl)
            try simp only [Act.put, List.getElem_toArray, List.getElem_cons_succ, List.getElem_cons_zero, List.setIfInBounds_toArray, List.set_cons_zero, List.set_cons_succ]
            refine wpAnyH_ready (rs := [4, 9]) (by kernel_rfl) (by simp) ?_
            refine AllReadyH.cons rfl (fun K hK => ?_) ?_
            · have c0 : (w6).cell? ⟨r, 6, none⟩ = some V.wv := (h4.below hb6).blk.cell' rfl
              go_simp
              refine hK.out _ _ trivial (fun hHeld => ?_)
              clear hK K
              try simp only [Act.put, List.getElem_toArray, List.getElem_cons_succ, List.getElem_cons_zero, List.setIfInBounds_toArray, List.set_cons_zero, List.set_cons_succ]
              refine wpAnyH_ready (rs := [9]) (by kernel_rfl) (by simp) ?_
              refine AllReadyH.cons rfl (fun K hK => ?_) AllReadyH.nil
              go_simp
              refine hK.out _ _ trivial (fun hHeld => ?_)
              clear hK K
              try simp only [Act.put, List.getElem_toArray, List.getElem_cons_succ, List.getElem_cons_zero, List.setIfInBounds_toArray, List.set_cons_zero, List.set_cons_succ]
              refine wpAnyH_ready (rs := [10]) (by kernel_rfl) (by simp) ?_
              refine AllReadyH.cons rfl (fun K hK => ?_) AllReadyH.nil
              rw [if_pos (by rfl)]
              refine wp_appendR (.tmp 70) (.tmp 75) rfl V.wv (t.wrote.map (·.1)) V.ws hwl rfl (h4.below hbA).wrow w6.heap.size (k : Int) ⟨p6, 256, c6⟩ rfl (Blk.new' w6 124 #[.int .i64 (k : Int), .slice p6 256 c6]) (by omega) ?_
              intro p1 c1 w7 hp1 hg1 hat1
              have L := h4.logged hbA (hin6.below (below_alloc w6 _)) (hu6.below (below_alloc w6 _)) (k : Int) hg1 hp1 hat1 hw2
              have c6' := L.1.cell' (i := 6) (v := V.wv) rfl
              have f6 := L.1.frozen 6
              refine hK.out _ _ trivial (fun hHeld => ?_)
              clear hK K
              try simp only [Act.put, List.getElem_toArray, List.getElem_cons_succ, List.getElem_cons_zero, List.setIfInBounds_toArray, List.set_cons_zero, List.set_cons_succ]
              refine wpAnyH_take (i := 11) (v := ?_) rfl (by kernel_rfl) (by kernel_rfl) (by kernel_rfl) (fun _ _ _ h => h) (Or.inl ⟨by rfl, ?_⟩) hHeld ?_
              rotate_left
              · intro w' hSw; try dsimp only at hSw
                go_simp; try (with_reducible rfl)
              try simp only [Act.put, List.getElem_toArray, List.getElem_cons_succ, List.getElem_cons_zero, List.setIfInBounds_toArray, List.set_cons_zero, List.set_cons_succ]
              refine wpAnyH_take (i := 12) (v := ?_) rfl (by kernel_rfl) (by kernel_rfl) (by kernel_rfl) (fun _ _ _ h => h) (Or.inl ⟨by rfl, ?_⟩) hHeld ?_
              rotate_left
              · intro w' hSw; try dsimp only at hSw
                go_simp; try (with_reducible rfl)
              try simp only [Act.put, List.getElem_toArray, List.getElem_cons_succ, List.getElem_cons_zero, List.setIfInBounds_toArray, List.set_cons_zero, List.set_cons_succ]
              refine wpAnyH_ready (rs := [13]) (by kernel_rfl) (by simp) ?_
              refine AllReadyH.cons rfl (fun K hK => ?_) AllReadyH.nil
              go_simp
              refine hK.out _ _ trivial (fun hHeld => ?_)
              clear hK K
              try simp only [Act.put, List.getElem_toArray, List.getElem_cons_succ, List.getElem_cons_zero, List.setIfInBounds_toArray, List.set_cons_zero, List.set_cons_succ]
              refine wpAnyH_done (by kernel_rfl) ?_ _
              refine NoPanic.normal ?_
              go_wp2_with fail
              go_ret
              have q := A1.trans (T4.trans L.2)
              rw [hg, hc] at q
              exact ⟨rfl, _, q⟩
            refine AllReadyH.cons rfl (fun K hK => ?_) AllReadyH.nil
            go_simp
            refine hK.out _ _ trivial (fun hHeld => ?_)
            clear hK K
            try simp only [Act.put, List.getElem_toArray, List.getElem_cons_succ, List.getElem_cons_zero, List.setIfInBounds_toArray, List.set_cons_zero, List.set_cons_succ]
            refine wpAnyH_ready (rs := [4]) (by kernel_rfl) (by simp) ?_
            refine AllReadyH.cons rfl (fun K hK => ?_) AllReadyH.nil
            have c0 : (w6.alloc (.cells #[.int .i64 (k : Int), .slice p6 256 c6] 124)).cell? ⟨r, 6, none⟩ = some V.wv := (h4.below hbA).blk.cell' rfl
            go_simp
            refine hK.out _ _ trivial (fun hHeld => ?_)
            clear hK K
            try simp only [Act.put, List.getElem_toArray, List.getElem_cons_succ, List.getElem_cons_zero, List.setIfInBounds_toArray, List.set_cons_zero, List.set_cons_succ]
            refine wpAnyH_ready (rs := [10]) (by kernel_rfl) (by simp) ?_
            refine AllReadyH.cons rfl (fun K hK => ?_) AllReadyH.nil
            rw [if_pos (by rfl)]
            refine wp_appendR (.tmp 70) (.tmp 75) rfl V.wv (t.wrote.map (·.1)) V.ws hwl rfl (h4.below hbA).wrow w6.heap.size (k : Int) ⟨p6, 256, c6⟩ rfl (Blk.new' w6 124 #[.int .i64 (k : Int), .slice p6 256 c6]) (by omega) ?_
            intro p1 c1 w7 hp1 hg1 hat1
            have L := h4.logged hbA (hin6.below (below_alloc w6 _)) (hu6.below (below_alloc w6 _)) (k : Int) hg1 hp1 hat1 hw2
            have c6' := L.1.cell' (i := 6) (v := V.wv) rfl
            have f6 := L.1.frozen 6
            refine hK.out _ _ trivial (fun hHeld => ?_)
            clear hK K
            try simp only [Act.put, List.getElem_toArray, List.getElem_cons_succ, List.getElem_cons_zero, List.setIfInBounds_toArray, List.set_cons_zero, List.set_cons_succ]
            refine wpAnyH_take (i := 11) (v := ?_) rfl (by kernel_rfl) (by kernel_rfl) (by kernel_rfl) (fun _ _ _ h => h) (Or.inl ⟨by rfl, ?_⟩) hHeld ?_
            rotate_left
            · intro w' hSw; try dsimp only at hSw
              go_simp; try (with_reducible rfl)
            try simp only [Act.put, List.getElem_toArray, List.getElem_cons_succ, List.getElem_cons_zero, List.setIfInBounds_toArray, List.set_cons_zero, List.set_cons_succ]
            refine wpAnyH_take (i := 12) (v := ?_) rfl (by kernel_rfl) (by kernel_rfl) (by kernel_rfl) (fun _ _ _ h => h) (Or.inl ⟨by rfl, ?_⟩) hHeld ?_
            rotate_left
            · intro w' hSw; try dsimp only at hSw
              go_simp; try (with_reducible rfl)
            try simp only [Act.put, List.getElem_toArray, List.getElem_cons_succ, List.getElem_cons_zero, List.setIfInBounds_toArray, List.set_cons_zero, List.set_cons_succ]
            refine wpAnyH_ready (rs := [13]) (by kernel_rfl) (by simp) ?_
            refine AllReadyH.cons rfl (fun K hK => ?_) AllReadyH.nil
            go_simp
            refine hK.out _ _ trivial (fun hHeld => ?_)
            clear hK K
            try simp only [Act.put, List.getElem_toArray, List.getElem_cons_succ, List.getElem_cons_zero, List.setIfInBounds_toArray, List.set_cons_zero, List.set_cons_succ]
            refine wpAnyH_done (by kernel_rfl) ?_ _
            refine NoPanic.normal ?_
            go_wp2_with fail
            go_ret
            have q := A1.trans (T4.trans L.2)
            rw [hg, hc] at q
            exact ⟨rfl, _, q⟩
      · have e1 : rwE t i n' = 1 := by simp [rwE, hg, hn]
        have e2 : rwS t i xs = t := by simp [rwS, hg, hx.len, hn]
        rw [e1, e2]
        have hn' : (n' : Int) ≠ 256 := by omega
        go_enter Tryz.func78, Tryz.ntmps78
        go_wp2_with (go_at_call 87; refine hh.mono ?_; rintro e w' ⟨rfl, hw'⟩; have hw2 := hw'.symm; subst hw2; clear hw')
        go_ret
        exact ⟨rfl, _, RAfter.refl h⟩
  · have e1 : rwE t i n' = 8 := by simp [rwE, hg]
    have e2 : rwS t i xs = t := by simp [rwS, hg]
    rw [e1, e2]
    rw [hg] at g2
    go_enter Tryz.func78, Tryz.ntmps78
    go_wp2
    go_ret
    exact ⟨rfl, _, RAfter.refl h⟩
end Go.Proofs.YtdmnddikcpfmfaaGreat
