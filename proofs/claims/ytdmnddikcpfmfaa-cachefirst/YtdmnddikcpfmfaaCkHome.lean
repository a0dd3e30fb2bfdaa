/-
  A buffer goes home.
-/
import Derived.Test.YtdmnddikcpfmfaaCkAdd
namespace Go.Proofs.Ytdmnddikcpfmfaa
open Go.RowKit Go.Maps Go.Shelf
/-- What the function in home reads. -/
def SH (W : World) (bx by_ bz c d g k : Nat) (v : Value) : Prop := W.cell? ⟨bx, 0, none⟩ = some (.pointer (some ⟨c, 0, none⟩)) ∧ W.cell? ⟨by_, 0, none⟩ = some (.pointer (some ⟨g, 0, none⟩)) ∧ W.cell? ⟨bz, 0, none⟩ = some v ∧ W.cell? ⟨c, 0, none⟩ = some (ramI d) ∧ W.cell? ⟨g, 0, none⟩ = some (.int .i64 (k : Int))
theorem SH.drewN1 {W : World} {bx by_ bz c d g k : Nat} {v : Value} (h : SH W bx by_ bz c d g k v) : SH W.drew bx by_ bz c d g k v := h
theorem writeS_len (ds : DS) (i : Int) (xs : List Nat) : (writeS ds i xs).secs.length = ds.secs.length := by
  unfold writeS putS
  split
  · rfl
  · split
    · rfl
    · split
      · rfl
      · simp
/-- The disk's blocks alone were written. -/
theorem blk_disk {w w' : World} {d sb : Nat} {lv lv' : Value} {ds ds' : DS} (hD : DiskIn w d sb lv ds) (hA : DAfter w w' d sb lv lv' ds') {g : Nat} {t : TypeId} {cs : List Value} (hb : Blk w g t cs) (h1 : t ≠ 66) (h2 : t ≠ 82) (h3 : t ≠ 87) : Blk w' g t cs :=
  hb.keep hA.keep (by
    rintro (rfl | rfl | e)
    · exact blk_ne hD.ram hb (fun e => h1 e.symm) rfl
    · exact blk_ne hD.row hb (fun e => h2 e.symm) rfl
    · exact owns_ne hD.log e hb h3 rfl)
set_option linter.unusedSimpArgs false in
set_option maxRecDepth 100000 in
set_option maxHeartbeats 2000000 in
theorem home1_any {W : World} {s : CS} (h : CIn W s) {x : BufS} (hxL : x ∈ s.L) (bx by_ bz : Nat) (p : Option Addr) (c : Nat) (D : List Nat) (hx : Blk W bx 27 [.pointer (some ⟨s.c, 0, none⟩)]) (hy : Blk W by_ 57 [.pointer (some ⟨x.g, 0, none⟩)]) (hz : Blk W bz 35 [.slice p D.length c]) (hin : In W p D.length c D) (hwr : s.ds.writes < 1024) :
    Calls Try.prog 70 #[.pointer (some ⟨bx, 0, none⟩), .pointer (some ⟨by_, 0, none⟩), .pointer (some ⟨bz, 0, none⟩)] W fun e w' => e = .returned (.int .i64 (writeE s.ds (x.b.k : Int) D.length)) ∧ ∃ lv', DAfter W w' s.d s.sb s.lv lv' (writeS s.ds (x.b.k : Int) D) := by
  have hm1 : ∀ W : World, (method 245 23 (.pointer (some ⟨s.d, 0, none⟩)) "Write").run Try.prog W = .ok (112, .pointer (some ⟨s.d, 0, none⟩)) W := fun _ => by kernel_rfl
  have hg := h.mem x (List.mem_cons_of_mem _ hxL)
  have hD := h.base.disk
  obtain ⟨v, hv⟩ : ∃ v, v = Value.slice p D.length c := ⟨_, rfl⟩
  have hS : SH W bx by_ bz s.c s.d x.g x.b.k v := ⟨hx.cell' rfl, hy.cell' rfl, hv ▸ hz.cell' rfl, h.base.cc.cell' rfl, hg.cell' rfl⟩
  have hD1 : DiskIn W.drew s.d s.sb s.lv s.ds := hD.below (below_drewN (Below.refl _ _) 1)
  have hw := write_any hD1 (x.b.k : Int) p D.length c D (hin.below (below_drewN (Below.refl _ _) 1)) hwr
  rw [← hv] at hw
  have hK1 : ∀ w1 lv', DAfter W.drew w1 s.d s.sb s.lv lv' (writeS s.ds (x.b.k : Int) D) → SH w1 bx by_ bz s.c s.d x.g x.b.k v := fun w1 lv' hA =>
    ⟨(blk_disk hD1 hA hx (by decide) (by decide) (by decide)).cell' rfl, (blk_disk hD1 hA hy (by decide) (by decide) (by decide)).cell' rfl, hv ▸ (blk_disk hD1 hA hz (by decide) (by decide) (by decide)).cell' rfl, (blk_disk hD1 hA h.base.cc (by decide) (by decide) (by decide)).cell' rfl, (blk_disk hD1 hA hg (by decide) (by decide) (by decide)).cell' rfl⟩
  clear hv hx hy hz hg hin
  generalize writeE s.ds (x.b.k : Int) D.length = E at *
  go_enter Try.func70, Try.ntmps70
  go_wp2_with fail
  refine wp_region_noPanic ?_
  refine wp_region_held_drew (S := fun W => SH W bx by_ bz s.c s.d x.g x.b.k v) (by kernel_rfl) hS.drewN1 (fun hHeld => ?_)
  refine wpAnyH_take (i := 0) (v := ?_) rfl (by kernel_rfl) (by kernel_rfl) (by kernel_rfl) (fun _ _ _ h => h) (Or.inl ⟨by rfl, ?_⟩) hHeld ?_
  rotate_left
  · intro w' hSw; try dsimp only at hSw
    have q := hSw.1
    go_simp; try (with_reducible rfl)
  try simp only [Act.put, List.getElem_toArray, List.getElem_cons_succ, List.getElem_cons_zero, List.setIfInBounds_toArray, List.set_cons_zero, List.set_cons_succ]
  refine wpAnyH_take (i := 1) (v := ?_) rfl (by kernel_rfl) (by kernel_rfl) (by kernel_rfl) (fun _ _ _ h => h) (Or.inl ⟨by rfl, ?_⟩) hHeld ?_
  rotate_left
  · intro w' hSw; try dsimp only at hSw
    go_simp; try (with_reducible rfl)
  try simp only [Act.put, List.getElem_toArray, List.getElem_cons_succ, List.getElem_cons_zero, List.setIfInBounds_toArray, List.set_cons_zero, List.set_cons_succ]
  refine wpAnyH_take (i := 2) (v := ?_) rfl (by kernel_rfl) (by kernel_rfl) (by kernel_rfl) (fun _ _ _ h => h) (Or.inl ⟨by rfl, ?_⟩) hHeld ?_
  rotate_left
  · intro w' hSw; try dsimp only at hSw
    go_simp; try (with_reducible rfl)
  try simp only [Act.put, List.getElem_toArray, List.getElem_cons_succ, List.getElem_cons_zero, List.setIfInBounds_toArray, List.set_cons_zero, List.set_cons_succ]
  refine wpAnyH_take (i := 3) (v := ?_) rfl (by kernel_rfl) (by kernel_rfl) (by kernel_rfl) (fun _ _ _ h => h) (Or.inl ⟨by rfl, ?_⟩) hHeld ?_
  rotate_left
  · intro w' hSw; try dsimp only at hSw
    have q := hSw.2.2.2.1
    unfold ramI at q
    go_simp; try (with_reducible rfl)
  try simp only [Act.put, List.getElem_toArray, List.getElem_cons_succ, List.getElem_cons_zero, List.setIfInBounds_toArray, List.set_cons_zero, List.set_cons_succ]
  refine wpAnyH_take (i := 4) (v := ?_) rfl (by kernel_rfl) (by kernel_rfl) (by kernel_rfl) (fun _ _ _ h => h) (Or.inl ⟨by rfl, ?_⟩) hHeld ?_
  rotate_left
  · intro w' hSw; try dsimp only at hSw
    have q := hSw.2.1
    go_simp; try (with_reducible rfl)
  try simp only [Act.put, List.getElem_toArray, List.getElem_cons_succ, List.getElem_cons_zero, List.setIfInBounds_toArray, List.set_cons_zero, List.set_cons_succ]
  refine wpAnyH_take (i := 5) (v := ?_) rfl (by kernel_rfl) (by kernel_rfl) (by kernel_rfl) (fun _ _ _ h => h) (Or.inl ⟨by rfl, ?_⟩) hHeld ?_
  rotate_left
  · intro w' hSw; try dsimp only at hSw
    go_simp; try (with_reducible rfl)
  try simp only [Act.put, List.getElem_toArray, List.getElem_cons_succ, List.getElem_cons_zero, List.setIfInBounds_toArray, List.set_cons_zero, List.set_cons_succ]
  refine wpAnyH_take (i := 6) (v := ?_) rfl (by kernel_rfl) (by kernel_rfl) (by kernel_rfl) (fun _ _ _ h => h) (Or.inl ⟨by rfl, ?_⟩) hHeld ?_
  rotate_left
  · intro w' hSw; try dsimp only at hSw
    go_simp; try (with_reducible rfl)
  try simp only [Act.put, List.getElem_toArray, List.getElem_cons_succ, List.getElem_cons_zero, List.setIfInBounds_toArray, List.set_cons_zero, List.set_cons_succ]
  refine wpAnyH_take (i := 7) (v := ?_) rfl (by kernel_rfl) (by kernel_rfl) (by kernel_rfl) (fun _ _ _ h => h) (Or.inl ⟨by rfl, ?_⟩) hHeld ?_
  rotate_left
  · intro w' hSw; try dsimp only at hSw
    have q := hSw.2.2.2.2
    go_simp; try (with_reducible rfl)
  try simp only [Act.put, List.getElem_toArray, List.getElem_cons_succ, List.getElem_cons_zero, List.setIfInBounds_toArray, List.set_cons_zero, List.set_cons_succ]
  refine wpAnyH_take (i := 8) (v := ?_) rfl (by kernel_rfl) (by kernel_rfl) (by kernel_rfl) (fun _ _ _ h => h) (Or.inl ⟨by rfl, ?_⟩) hHeld ?_
  rotate_left
  · intro w' hSw; try dsimp only at hSw
    have q := hSw.2.2.1
    go_simp; try (with_reducible rfl)
  try simp only [Act.put, List.getElem_toArray, List.getElem_cons_succ, List.getElem_cons_zero, List.setIfInBounds_toArray, List.set_cons_zero, List.set_cons_succ]
  refine wpAnyH_take (i := 9) (v := ?_) rfl (by kernel_rfl) (by kernel_rfl) (by kernel_rfl) (fun _ _ _ h => h) (Or.inl ⟨by rfl, ?_⟩) hHeld ?_
  rotate_left
  · intro w' hSw; try dsimp only at hSw
    go_simp; try (with_reducible rfl)
  try simp only [Act.put, List.getElem_toArray, List.getElem_cons_succ, List.getElem_cons_zero, List.setIfInBounds_toArray, List.set_cons_zero, List.set_cons_succ]
  refine wpAnyH_take (i := 10) (v := ?_) rfl (by kernel_rfl) (by kernel_rfl) (by kernel_rfl) (fun _ _ _ h => h) (Or.inl ⟨by rfl, ?_⟩) hHeld ?_
  rotate_left
  · intro w' hSw; try dsimp only at hSw
    go_simp; try (with_reducible rfl)
  try simp only [Act.put, List.getElem_toArray, List.getElem_cons_succ, List.getElem_cons_zero, List.setIfInBounds_toArray, List.set_cons_zero, List.set_cons_succ]
  refine wpAnyH_ready (rs := [11]) (by kernel_rfl) (by simp) ?_
  refine AllReadyH.cons rfl (fun K hK => ?_) AllReadyH.nil
  rw [if_pos (by rfl)]
  go_simp
  refine hw.mono ?_
  rintro e w1 ⟨rfl, lv', hA⟩
  have hS1 := hK1 w1 lv' hA
  refine hK.out _ _ hS1 (fun hHeld => ?_)
  clear hK K
  try simp only [Act.put, List.getElem_toArray, List.getElem_cons_succ, List.getElem_cons_zero, List.setIfInBounds_toArray, List.set_cons_zero, List.set_cons_succ]
  refine wpAnyH_take (i := 12) (v := ?_) rfl (by kernel_rfl) (by kernel_rfl) (by kernel_rfl) (fun _ _ _ h => h) (Or.inl ⟨by rfl, ?_⟩) hHeld ?_
  rotate_left
  · intro w' hSw; try dsimp only at hSw
    go_simp; try (with_reducible rfl)
  try simp only [Act.put, List.getElem_toArray, List.getElem_cons_succ, List.getElem_cons_zero, List.setIfInBounds_toArray, List.set_cons_zero, List.set_cons_succ]
  refine wpAnyH_done (by kernel_rfl) ?_ _
  refine NoPanic.normal ?_
  go_wp2_with fail
  go_ret
  exact ⟨rfl, lv', hA.drop (below_drewN (Below.refl _ _) 1)⟩
end Go.Proofs.Ytdmnddikcpfmfaa
