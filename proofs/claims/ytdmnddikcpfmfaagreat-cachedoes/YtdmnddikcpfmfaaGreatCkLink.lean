/-
  A buffer is taken out of the ring, and laid into it.
-/
import Derived.Test.YtdmnddikcpfmfaaGreatCkAsk
import Derived.Laws.Tables
namespace Go.Proofs.YtdmnddikcpfmfaaGreat
open Go.RowKit Go.Maps Go.Shelf
theorem run_store_blk1 {w : World} {g i : Nat} {t : TypeId} {cs : List Value} (h : Blk w g t cs) (hi : i < cs.length) (ty : TypeId) (hz : (Tryz.prog.info? ty).map (·.size) = some 1) (v : Value) (hv : v.oneCell' = true) (hc : v.cells = #[v]) :
    (storeVar ty ⟨g, i, none⟩ v).run Tryz.prog w = .ok () (w.setCell ⟨g, i, none⟩ v) := by
  have hcell := h.cell i
  rw [List.getElem?_eq_getElem hi] at hcell
  have hst := run_storeCells_cells (P := Tryz.prog) g i [v] 0 w (fun j hj => by simp at hj; subst hj; simp [hcell]) (fun j hj => by simp at hj; subst hj; simpa using h.frozen i) (by simpa using hv)
  cases hq : Tryz.prog.info? ty with
  | none => simp [hq] at hz
  | some ii =>
    have hs : 1 = ii.size := by simp [hq] at hz; omega
    simp only [storeVar, sizeOf, typeInfo, Sem.run_bind, hc]
    simp [← hs, hq, hst, World.setCells]
/-- A store of a pointer into one cell of a buffer. -/
theorem wp_store_at {o : Oper} {a : Act} {w : World} {K : Act → World → Prop} {Q : Exit → Act → World → Prop} (x y : Operand) (ho : o.op = .store 71 x y) (g i : Nat) (v : Option Addr) (hx : a.eval x = .pointer (some ⟨g, i, none⟩)) (hy : a.eval y = .pointer v) {cs : List Value} (h : Blk w g 97 cs) (hi : i < 6)
    (hcs : cs.length = 6) (hK : K (a.put o.dst undef) (w.setCell ⟨g, i, none⟩ (.pointer v))) : o.wp Tryz.prog a w K Q := by
  have hrun := run_store_blk1 h (i := i) (by omega) 71 (by kernel_rfl) (.pointer v) rfl rfl
  unfold Oper.wp execOp
  simp only [ho, hx, hy, Instr.storeAt, Instr.sureAddr, Sem.run_bind, Sem.run_pure, Result.andThen_ok, hrun]
  exact hK
set_option linter.unusedSimpArgs false in
set_option maxRecDepth 100000 in
set_option maxHeartbeats 2000000 in
theorem unlink_any {w : World} {A : List BufS} {O N : Nat → Nat} (hM : Mem w A O N) {x : BufS} (hxA : x ∈ A) (h1 : O x.g ∈ A.map (·.g)) (h2 : N x.g ∈ A.map (·.g)) (ha : x.g ≠ O x.g) (hb : x.g ≠ N x.g) :
    Calls Tryz.prog 97 #[.pointer (some ⟨x.g, 0, none⟩)] w fun e w' => (∃ u, e = .returned u) ∧ Mem w' A (upd O (N x.g) (O x.g)) (upd N (O x.g) (N x.g)) ∧ Keep (fun k => k = O x.g ∨ k = N x.g) w w' := by
  have hx := hM x hxA
  obtain ⟨ya, hya, ea⟩ := List.mem_map.1 h1
  obtain ⟨yb, hyb, eb⟩ := List.mem_map.1 h2
  have hA := hM ya hya
  have hM2 := hM.new (O x.g) (N x.g)
  have hB2 := hM2 yb hyb
  rw [ea] at hA
  rw [eb] at hB2
  have hM3 := hM2.old (N x.g) (O x.g)
  have hk : Keep (fun k => k = O x.g ∨ k = N x.g) w (((w.setCell ⟨O x.g, 5, none⟩ (.pointer (some ⟨N x.g, 0, none⟩))).setCell ⟨N x.g, 4, none⟩ (.pointer (some ⟨O x.g, 0, none⟩)))) :=
    (Keep.of_turned (Turned.setCell _ _ _) (.inl rfl)).trans (Keep.of_turned (Turned.setCell _ _ _) (.inr rfl)) (fun _ _ h => h)
  generalize O x.g = a at *
  generalize N x.g = b at *
  go_enter Tryz.func97, Tryz.ntmps97
  refine wp_region_noPanic ?_
  refine wp_region_held_drew (S := fun W => Blk W x.g 97 (bufV x a b)) (by kernel_rfl) hx.drew (fun hHeld => ?_)
  refine wpAnyH_take (i := 0) (v := ?_) rfl (by kernel_rfl) (by kernel_rfl) (by kernel_rfl) (fun _ _ _ h => h) (Or.inl ⟨by rfl, ?_⟩) hHeld ?_
  rotate_left
  · intro w' hSw; try dsimp only at hSw
    go_simp; try (with_reducible rfl)
  try simp only [Act.put, List.getElem_toArray, List.getElem_cons_succ, List.getElem_cons_zero, List.setIfInBounds_toArray, List.set_cons_zero, List.set_cons_succ]
  refine wpAnyH_take (i := 1) (v := ?_) rfl (by kernel_rfl) (by kernel_rfl) (by kernel_rfl) (fun _ _ _ h => h) (Or.inl ⟨by rfl, ?_⟩) hHeld ?_
  rotate_left
  · intro w' hSw; try dsimp only at hSw
    go_simp; try (with_reducible rfl)
  try simp only [Act.put, List.getElem_toArray, List.getElem_cons_succ, List.getElem_cons_zero, List.setIfInBounds_toArray, List.set_cons_zero, List.set_cons_succ]
  refine wpAnyH_take (i := 2) (v := ?_) rfl (by kernel_rfl) (by kernel_rfl) (by kernel_rfl) (fun _ _ _ h => h) (Or.inl ⟨by rfl, ?_⟩) hHeld ?_
  rotate_left
  · intro w' hSw; try dsimp only at hSw
    go_simp; try (with_reducible rfl)
  try simp only [Act.put, List.getElem_toArray, List.getElem_cons_succ, List.getElem_cons_zero, List.setIfInBounds_toArray, List.set_cons_zero, List.set_cons_succ]
  refine wpAnyH_take (i := 3) (v := ?_) rfl (by kernel_rfl) (by kernel_rfl) (by kernel_rfl) (fun _ _ _ h => h) (Or.inl ⟨by rfl, ?_⟩) hHeld ?_
  rotate_left
  · intro w' hSw; try dsimp only at hSw
    have c4 := hSw.cell' (i := 4) (v := .pointer (some ⟨a, 0, none⟩)) rfl
    go_simp; try (with_reducible rfl)
  try simp only [Act.put, List.getElem_toArray, List.getElem_cons_succ, List.getElem_cons_zero, List.setIfInBounds_toArray, List.set_cons_zero, List.set_cons_succ]
  refine wpAnyH_take (i := 4) (v := ?_) rfl (by kernel_rfl) (by kernel_rfl) (by kernel_rfl) (fun _ _ _ h => h) (Or.inl ⟨by rfl, ?_⟩) hHeld ?_
  rotate_left
  · intro w' hSw; try dsimp only at hSw
    go_simp; try (with_reducible rfl)
  try simp only [Act.put, List.getElem_toArray, List.getElem_cons_succ, List.getElem_cons_zero, List.setIfInBounds_toArray, List.set_cons_zero, List.set_cons_succ]
  refine wpAnyH_take (i := 5) (v := ?_) rfl (by kernel_rfl) (by kernel_rfl) (by kernel_rfl) (fun _ _ _ h => h) (Or.inl ⟨by rfl, ?_⟩) hHeld ?_
  rotate_left
  · intro w' hSw; try dsimp only at hSw
    go_simp; try (with_reducible rfl)
  try simp only [Act.put, List.getElem_toArray, List.getElem_cons_succ, List.getElem_cons_zero, List.setIfInBounds_toArray, List.set_cons_zero, List.set_cons_succ]
  refine wpAnyH_take (i := 6) (v := ?_) rfl (by kernel_rfl) (by kernel_rfl) (by kernel_rfl) (fun _ _ _ h => h) (Or.inl ⟨by rfl, ?_⟩) hHeld ?_
  rotate_left
  · intro w' hSw; try dsimp only at hSw
    go_simp; try (with_reducible rfl)
  try simp only [Act.put, List.getElem_toArray, List.getElem_cons_succ, List.getElem_cons_zero, List.setIfInBounds_toArray, List.set_cons_zero, List.set_cons_succ]
  refine wpAnyH_take (i := 7) (v := ?_) rfl (by kernel_rfl) (by kernel_rfl) (by kernel_rfl) (fun _ _ _ h => h) (Or.inl ⟨by rfl, ?_⟩) hHeld ?_
  rotate_left
  · intro w' hSw; try dsimp only at hSw
    have c5 := hSw.cell' (i := 5) (v := .pointer (some ⟨b, 0, none⟩)) rfl
    go_simp; try (with_reducible rfl)
  try simp only [Act.put, List.getElem_toArray, List.getElem_cons_succ, List.getElem_cons_zero, List.setIfInBounds_toArray, List.set_cons_zero, List.set_cons_succ]
  refine wpAnyH_take (i := 8) (v := ?_) rfl (by kernel_rfl) (by kernel_rfl) (by kernel_rfl) (fun _ _ _ h => h) (Or.inl ⟨by rfl, ?_⟩) hHeld ?_
  rotate_left
  · intro w' hSw; try dsimp only at hSw
    go_simp; try (with_reducible rfl)
  try simp only [Act.put, List.getElem_toArray, List.getElem_cons_succ, List.getElem_cons_zero, List.setIfInBounds_toArray, List.set_cons_zero, List.set_cons_succ]
  refine wpAnyH_take (i := 9) (v := ?_) rfl (by kernel_rfl) (by kernel_rfl) (by kernel_rfl) (fun _ _ _ h => h) (Or.inl ⟨by rfl, ?_⟩) hHeld ?_
  rotate_left
  · intro w' hSw; try dsimp only at hSw
    go_simp; try (with_reducible rfl)
  try simp only [Act.put, List.getElem_toArray, List.getElem_cons_succ, List.getElem_cons_zero, List.setIfInBounds_toArray, List.set_cons_zero, List.set_cons_succ]
  refine wpAnyH_take (i := 10) (v := ?_) rfl (by kernel_rfl) (by kernel_rfl) (by kernel_rfl) (fun _ _ _ h => h) (Or.inl ⟨by rfl, ?_⟩) hHeld ?_
  rotate_left
  · intro w' hSw; try dsimp only at hSw
    go_simp; try (with_reducible rfl)
  try simp only [Act.put, List.getElem_toArray, List.getElem_cons_succ, List.getElem_cons_zero, List.setIfInBounds_toArray, List.set_cons_zero, List.set_cons_succ]
  refine wpAnyH_take (i := 11) (v := ?_) rfl (by kernel_rfl) (by kernel_rfl) (by kernel_rfl) (fun _ _ _ h => h) (Or.inl ⟨by rfl, ?_⟩) hHeld ?_
  rotate_left
  · intro w' hSw; try dsimp only at hSw
    have c5 := hSw.cell' (i := 5) (v := .pointer (some ⟨b, 0, none⟩)) rfl
    go_simp; try (with_reducible rfl)
  try simp only [Act.put, List.getElem_toArray, List.getElem_cons_succ, List.getElem_cons_zero, List.setIfInBounds_toArray, List.set_cons_zero, List.set_cons_succ]
  refine wpAnyH_take (i := 12) (v := ?_) rfl (by kernel_rfl) (by kernel_rfl) (by kernel_rfl) (fun _ _ _ h => h) (Or.inl ⟨by rfl, ?_⟩) hHeld ?_
  rotate_left
  · intro w' hSw; try dsimp only at hSw
    go_simp; try (with_reducible rfl)
  try simp only [Act.put, List.getElem_toArray, List.getElem_cons_succ, List.getElem_cons_zero, List.setIfInBounds_toArray, List.set_cons_zero, List.set_cons_succ]
  refine wpAnyH_take (i := 13) (v := ?_) rfl (by kernel_rfl) (by kernel_rfl) (by kernel_rfl) (fun _ _ _ h => h) (Or.inl ⟨by rfl, ?_⟩) hHeld ?_
  rotate_left
  · intro w' hSw; try dsimp only at hSw
    go_simp; try (with_reducible rfl)
  try simp only [Act.put, List.getElem_toArray, List.getElem_cons_succ, List.getElem_cons_zero, List.setIfInBounds_toArray, List.set_cons_zero, List.set_cons_succ]
  refine wpAnyH_take (i := 14) (v := ?_) rfl (by kernel_rfl) (by kernel_rfl) (by kernel_rfl) (fun _ _ _ h => h) (Or.inl ⟨by rfl, ?_⟩) hHeld ?_
  rotate_left
  · intro w' hSw; try dsimp only at hSw
    go_simp; try (with_reducible rfl)
  try simp only [Act.put, List.getElem_toArray, List.getElem_cons_succ, List.getElem_cons_zero, List.setIfInBounds_toArray, List.set_cons_zero, List.set_cons_succ]
  refine wpAnyH_take (i := 15) (v := ?_) rfl (by kernel_rfl) (by kernel_rfl) (by kernel_rfl) (fun _ _ _ h => h) (Or.inl ⟨by rfl, ?_⟩) hHeld ?_
  rotate_left
  · intro w' hSw; try dsimp only at hSw
    have c4 := hSw.cell' (i := 4) (v := .pointer (some ⟨a, 0, none⟩)) rfl
    go_simp; try (with_reducible rfl)
  try simp only [Act.put, List.getElem_toArray, List.getElem_cons_succ, List.getElem_cons_zero, List.setIfInBounds_toArray, List.set_cons_zero, List.set_cons_succ]
  refine wpAnyH_take (i := 16) (v := ?_) rfl (by kernel_rfl) (by kernel_rfl) (by kernel_rfl) (fun _ _ _ h => h) (Or.inl ⟨by rfl, ?_⟩) hHeld ?_
  rotate_left
  · intro w' hSw; try dsimp only at hSw
    go_simp; try (with_reducible rfl)
  try simp only [Act.put, List.getElem_toArray, List.getElem_cons_succ, List.getElem_cons_zero, List.setIfInBounds_toArray, List.set_cons_zero, List.set_cons_succ]
  refine wpAnyH_take (i := 17) (v := ?_) rfl (by kernel_rfl) (by kernel_rfl) (by kernel_rfl) (fun _ _ _ h => h) (Or.inl ⟨by rfl, ?_⟩) hHeld ?_
  rotate_left
  · intro w' hSw; try dsimp only at hSw
    go_simp; try (with_reducible rfl)
  try simp only [Act.put, List.getElem_toArray, List.getElem_cons_succ, List.getElem_cons_zero, List.setIfInBounds_toArray, List.set_cons_zero, List.set_cons_succ]
  refine wpAnyH_ready (rs := [18]) (by kernel_rfl) (by simp) ?_
  refine AllReadyH.cons rfl (fun K hK => ?_) AllReadyH.nil
  rw [if_pos (by rfl)]
  refine wp_store_at _ _ rfl a 5 _ rfl rfl hA.drew (by decide) rfl ?_
  refine hK.out _ _ (hHeld.setOther _ _ ha) (fun hHeld => ?_)
  clear hK K
  try simp only [Act.put, List.getElem_toArray, List.getElem_cons_succ, List.getElem_cons_zero, List.setIfInBounds_toArray, List.set_cons_zero, List.set_cons_succ]
  refine wpAnyH_take (i := 19) (v := ?_) rfl (by kernel_rfl) (by kernel_rfl) (by kernel_rfl) (fun _ _ _ h => h) (Or.inl ⟨by rfl, ?_⟩) hHeld ?_
  rotate_left
  · intro w' hSw; try dsimp only at hSw
    go_simp; try (with_reducible rfl)
  try simp only [Act.put, List.getElem_toArray, List.getElem_cons_succ, List.getElem_cons_zero, List.setIfInBounds_toArray, List.set_cons_zero, List.set_cons_succ]
  refine wpAnyH_take (i := 20) (v := ?_) rfl (by kernel_rfl) (by kernel_rfl) (by kernel_rfl) (fun _ _ _ h => h) (Or.inl ⟨by rfl, ?_⟩) hHeld ?_
  rotate_left
  · intro w' hSw; try dsimp only at hSw
    go_simp; try (with_reducible rfl)
  try simp only [Act.put, List.getElem_toArray, List.getElem_cons_succ, List.getElem_cons_zero, List.setIfInBounds_toArray, List.set_cons_zero, List.set_cons_succ]
  refine wpAnyH_ready (rs := [21]) (by kernel_rfl) (by simp) ?_
  refine AllReadyH.cons rfl (fun K hK => ?_) AllReadyH.nil
  rw [if_pos (by rfl)]
  refine wp_store_at _ _ rfl b 4 _ rfl rfl hB2 (by decide) rfl ?_
  refine hK.out _ _ (hHeld.setOther _ _ hb) (fun hHeld => ?_)
  clear hK K
  try simp only [Act.put, List.getElem_toArray, List.getElem_cons_succ, List.getElem_cons_zero, List.setIfInBounds_toArray, List.set_cons_zero, List.set_cons_succ]
  refine wpAnyH_done (by kernel_rfl) ?_ _
  refine NoPanic.normal ?_
  go_end0
  exact ⟨⟨_, rfl⟩, fun y hy => hM3 y hy, ⟨hk.os, hk.tape, hk.output, hk.size, hk.block⟩⟩
set_option maxRecDepth 100000 in
theorem link_any {w : World} {A : List BufS} {O N : Nat → Nat} (hM : Mem w A O N) {x y : BufS} {v4 v5 : Value} (hx : Blk w x.g 97 [.int .i64 (x.b.k : Int), .slice x.p x.b.D.length x.cap, .int .i64 (x.b.cl : Int), .int .i64 (x.b.pins : Int), v4, v5]) (hyA : y ∈ A) (h1 : O y.g ∈ A.map (·.g)) (hl : x.g ≠ O y.g) (he : x.g ≠ y.g) :
    Calls Tryz.prog 96 #[.pointer (some ⟨x.g, 0, none⟩), .pointer (some ⟨y.g, 0, none⟩)] w fun e w' => (∃ u, e = .returned u) ∧ Mem w' (x :: A) (upd (upd O x.g (O y.g)) y.g x.g) (upd (upd N x.g y.g) (O y.g) x.g) ∧ Keep (fun k => k = x.g ∨ k = y.g ∨ k = O y.g) w w' := by
  have hy := hM y hyA
  obtain ⟨z, hz, ez⟩ := List.mem_map.1 h1
  have hZ := hM z hz
  rw [ez] at hZ
  have hM4 := (((hM.old x.g (O y.g)).new x.g y.g).new (O y.g) x.g).old y.g x.g
  have hX4 := (((hx.set 4 (.pointer (some ⟨O y.g, 0, none⟩))).set 5 (.pointer (some ⟨y.g, 0, none⟩))).setOther ⟨O y.g, 5, none⟩ (.pointer (some ⟨x.g, 0, none⟩)) hl).setOther ⟨y.g, 4, none⟩ (.pointer (some ⟨x.g, 0, none⟩)) he
  have hk : Keep (fun k => k = x.g ∨ k = y.g ∨ k = O y.g) w ((((w.setCell ⟨x.g, 4, none⟩ (.pointer (some ⟨O y.g, 0, none⟩))).setCell ⟨x.g, 5, none⟩ (.pointer (some ⟨y.g, 0, none⟩))).setCell ⟨O y.g, 5, none⟩ (.pointer (some ⟨x.g, 0, none⟩))).setCell ⟨y.g, 4, none⟩ (.pointer (some ⟨x.g, 0, none⟩))) :=
    (((Keep.of_turned (Turned.setCell _ _ _) (.inl rfl)).trans (Keep.of_turned (Turned.setCell _ _ _) (.inl rfl)) (fun _ _ h => h)).trans (Keep.of_turned (Turned.setCell _ _ _) (.inr (.inr rfl))) (fun _ _ h => h)).trans (Keep.of_turned (Turned.setCell _ _ _) (.inr (.inl rfl))) (fun _ _ h => h)
  have hM5 : Mem ((((w.setCell ⟨x.g, 4, none⟩ (.pointer (some ⟨O y.g, 0, none⟩))).setCell ⟨x.g, 5, none⟩ (.pointer (some ⟨y.g, 0, none⟩))).setCell ⟨O y.g, 5, none⟩ (.pointer (some ⟨x.g, 0, none⟩))).setCell ⟨y.g, 4, none⟩ (.pointer (some ⟨x.g, 0, none⟩))) (x :: A) (upd (upd O x.g (O y.g)) y.g x.g) (upd (upd N x.g y.g) (O y.g) x.g) := by
    intro u hu
    rcases List.mem_cons.1 hu with rfl | hu
    · rw [upd_other _ he, upd_same, upd_other _ hl, upd_same]
      exact hX4
    · exact hM4 u hu
  have a1 := hy.cell' (i := 4) (v := .pointer (some ⟨O y.g, 0, none⟩)) rfl
  have a2 := hx.cell' (i := 4) (v := v4) rfl
  have a3 := hx.cell' (i := 5) (v := v5) rfl
  have a4 := hZ.cell' (i := 5) (v := .pointer (some ⟨N z.g, 0, none⟩)) (by rw [← ez]; rfl)
  have f1 := hx.frozen 4
  have f2 := hx.frozen 5
  have f3 := hZ.frozen 5
  have f4 := hy.frozen 4
  have n1 : ¬ O y.g = x.g := fun e => hl e.symm
  have n2 : ¬ y.g = x.g := fun e => he e.symm
  generalize O y.g = l at *
  clear hx hy hZ hM hz h1 hM4 hX4
  go_enter Tryz.func96, Tryz.ntmps96
  go_wp2
  go_end0
  exact ⟨⟨_, rfl⟩, hM5, hk⟩
end Go.Proofs.YtdmnddikcpfmfaaGreat
