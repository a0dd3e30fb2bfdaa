/-
  The law's same: a chip and the reference's in one state.
-/
import Derived.Test.YthafcnilhloldaaNRTell
import Derived.Test.YthafcnilhloldaaNLPages2
import Derived.Test.YthafcnilhloldaaNNew
import Derived.Deep.RegionHeld3
import Derived.Deep.Cut
namespace Go.Proofs.Ythafcnilhloldaa
open Go.RowKit
def idxL (n : Nat) : List Value := (List.range n).map fun i : Nat => Value.int .i64 (i : Int)
theorem intsOf_upto (ps : List PageT) (n : Nat) (h : ps.length = n) : intsOf (upto ps n) = idxL n := by
  subst h
  unfold intsOf upto idxL
  rw [List.take_of_length_le (Nat.le_refl _)]
  apply List.ext_getElem?
  intro j
  simp only [List.getElem?_map, List.getElem?_mapIdx]
  by_cases hj : j < ps.length
  · rw [List.getElem?_eq_getElem hj, List.getElem?_range hj]; rfl
  · rw [List.getElem?_eq_none (by omega), List.getElem?_eq_none (by rw [List.length_range]; omega)]; rfl
theorem idxL_at {n j : Nat} (h : j < n) : (idxL n)[j]? = some (.int .i64 (j : Int)) := by
  unfold idxL
  rw [List.getElem?_map, List.getElem?_range h]; rfl
theorem lpages_pg (Bs : Nat) (v : Value) (ps : List (List Nat)) (n : Nat) (w : World) (hP : ∀ p ∈ ps, IsP p) (hn : ps.length = n) (hl : n ≤ 32) (hBs : w.cell? ⟨Bs, 0, none⟩ = some v) (hp : PagesIn w v ps) :
    Calls Try.prog 22 #[.func (.func 56) #[] #[.pointer (some ⟨Bs, 0, none⟩)], .int .i64 99] w fun e w' => ∃ pn cn pl cl, e = .returned (.tuple #[.slice pn n cn, .slice pl n cl]) ∧ w'.ownsRow w.heap.size 3 1 (.slice pn n cn) n (idxL n) ∧ PagesIn w' (.slice pl n cl) ps ∧ Below w.heap.size w w' := by
  obtain ⟨pp, hpp⟩ := toPages hP
  have hpl : pp.length = n := by rw [← List.length_map (f := (·.1)), hpp, hn]
  refine (lpages_any Bs v pp w hBs (by rw [hpp]; exact hp) (by rw [hpl]; exact hl)).mono ?_
  rintro x w' ⟨vn, vl, rfl, h1, h2, hb⟩
  rw [hpl] at h1 h2
  rw [intsOf_upto _ _ hpl] at h1
  rw [hpp] at h2
  obtain ⟨pn, cn, rfl⟩ := owns_slice h1
  obtain ⟨pl, cl, rfl⟩ := owns_slice h2
  exact ⟨pn, cn, pl, cl, rfl, h1, ⟨by rw [hn]; exact owns_zero h2, hP⟩, hb⟩
theorem owns_belowS {w w' : World} {B : Nat} {e : TypeId} {s : Nat} {v : Value} {n : Nat} {xs : List Value} (h : w.ownsRow B e s v n xs) (hb : Below w.heap.size w w') : w'.ownsRow B e s v n xs := by
  refine ⟨h.1, ?_⟩
  rcases h.2 with h' | ⟨g, cap, cur, rfl, hg, hh, hr⟩
  · exact .inl h'
  · exact .inr ⟨g, cap, cur, rfl, hg, (hb.block g (Array.getElem?_eq_some_iff.1 hh).1).trans hh, hr⟩
theorem look3 {w : World} {g : Nat} {a b c : Value} (h : Blk w g 54 [a, b, c]) : w.cell? ⟨g, 0, none⟩ = some a ∧ w.cell? ⟨g, 1, none⟩ = some b ∧ w.cell? ⟨g, 2, none⟩ = some c := ⟨h.cell' (i := 0) rfl, h.cell' (i := 1) rfl, h.cell' (i := 2) rfl⟩
/-- Two states that differ in their events alone. -/
structure SameSt (s t : St) : Prop where
  nb : t.nb = s.nb
  np : t.np = s.np
  bl : t.bl = s.bl
  ops : t.ops = s.ops
  on : t.on = s.on
theorem SameSt.blkAt {s t : St} (h : SameSt s t) (b : Int) : blkAt t b = blkAt s b := by unfold Go.Proofs.Ythafcnilhloldaa.blkAt; rw [h.bl]
theorem SameSt.look {s t : St} (h : SameSt s t) (b : Int) : lkW t b = lkW s b ∧ lkN t b = lkN s b ∧ lkB t b = lkB s b ∧ lkE t b = lkE s b := by
  unfold lkW lkN lkB lkE
  rw [h.blkAt]
  exact ⟨rfl, rfl, rfl, rfl⟩
theorem SameSt.chip {s t : St} (e : SameSt s t) {W : World} {r g cr : Nat} {PR : Nat → Value} (h : RsIn W r t g cr PR) : ∃ es, Blk W r 85 (chipCells s.nb s.np (.slice (some ⟨g, 0, none⟩) s.nb cr) es s.ops s.on) := by
  obtain ⟨ep, el, ec, hc, _⟩ := h.chip
  rw [e.nb, e.np, e.ops, e.on] at hc
  exact ⟨_, hc⟩
theorem SameSt.blk {s t : St} (e : SameSt s t) {W : World} {r g cr : Nat} {PR : Nat → Value} (h : RsIn W r t g cr PR) {i : Nat} {k : BlkS} (hk : s.bl[i]? = some k) : ∃ BC, Blk W g 87 BC ∧ BC[i * 4]? = some (PR i) ∧ PagesIn W (PR i) (allP s.np k) := by
  obtain ⟨BC, hB, _, hc⟩ := h.blks
  have hk' : t.bl[i]? = some k := by rw [e.bl]; exact hk
  have hp := h.pg i k hk'
  rw [e.np] at hp
  exact ⟨BC, hB, (hc i k hk').1, hp⟩
set_option linter.unusedSimpArgs false in
set_option linter.unusedVariables false in
set_option maxRecDepth 100000 in
set_option maxHeartbeats 8000000 in
theorem same_any (c r bb g cr : Nat) (s t : St) (PV PR : Nat → Value) (b : Int) (w : World) (hC : ChipIn w c s bb PV) (hR : RsIn w r t g cr PR) (hst : SameSt s t) :
    Calls Try.prog 13 #[.pointer (some ⟨c, 0, none⟩), .pointer (some ⟨r, 0, none⟩), .int .i64 b] w fun e w' => e = .returned (.bool true) ∧ Below w.heap.size w w' := by
  have hz := zeroPage
  have h32 : s.np ≤ 32 := hC.npl.2
  have hnb0 : 0 < s.nb := by have := hC.nbl; omega
  have hnbcr : s.nb ≤ cr := by have := hR.ler; rw [hst.nb] at this; exact this
  have hbll := hC.bll
  have hl1 := look_any c s bb PV b w hC
  have hl2 := fun w' (h : RsIn w' r t g cr PR) => slook_any r t g cr PR b w' h
  obtain ⟨eW, eN, eB, eE⟩ := hst.look b
  rw [eW, eN, eB, eE] at hl2
  clear eW eN eB eE
  have hpa := fun w' (h : ChipIn w' c s bb PV) => pages_any c s bb PV b w' h
  have hcase : (lkE s b = 22 ∧ pagesOf s b = []) ∨ ∃ (i : Nat) (k : BlkS), b = (i : Int) ∧ s.bl[i]? = some k ∧ lkE s b = 0 ∧ pagesOf s b = allP s.np k := by
    unfold lkE pagesOf
    cases hx : blkAt s b with
    | none => exact .inl ⟨rfl, rfl⟩
    | some k => obtain ⟨i, h1, _, h3⟩ := blkAt_in hbll hx; exact .inr ⟨i, k, h1, h3, rfl, rfl⟩
  have hisP : ∀ p ∈ pagesOf s b, IsP p := by
    rcases hcase with ⟨_, h⟩ | ⟨i, k, _, hk, _, h⟩
    · rw [h]; intro p hp; cases hp
    · rw [h]; exact allP_isP (hC.pg i k hk) _
  have hpl32 : (pagesOf s b).length ≤ 32 := by
    rcases hcase with ⟨_, h⟩ | ⟨i, k, _, hk, _, h⟩
    · rw [h]; simp
    · rw [h, allP_length]; exact h32
  have HC : Hid ((lkE s b = 22 ∧ pagesOf s b = []) ∨ ∃ (i : Nat) (k : BlkS), b = (i : Int) ∧ s.bl[i]? = some k ∧ lkE s b = 0 ∧ pagesOf s b = allP s.np k) := hcase
  clear hcase
  generalize lkW s b = kw at *
  generalize lkN s b = kn at *
  generalize lkB s b = kb at *
  generalize lkE s b = ke at *
  generalize pagesOf s b = ps at *
  have hlp := fun Bs v w' h1 h2 => lpages_pg Bs v ps ps.length w' hisP rfl hpl32 h1 h2
  obtain ⟨N, hN⟩ : ∃ N, ps.length = N := ⟨_, rfl⟩
  rw [hN] at hlp
  have HN : Hid (ps.length = N) := hN
  clear hN hpl32
  go_enter Try.func13, Try.ntmps13
  go_wp2_with fail
  refine hl1.mono ?_
  rintro e w1 ⟨rfl, hb1⟩
  have hk1 := below_alloc w1 (.cells #[.int .i64 kw, .int .i64 kn, .bool kb] 54)
  have bx1 := Blk.new' w1 54 #[.int .i64 kw, .int .i64 kn, .bool kb]
  have hC1 := (hC.below hb1).below hk1
  have hR1 := (hR.below hb1).below hk1
  have hB1 := bt hb1 hk1
  clear hb1 hk1 hl1 hC hR
  obtain ⟨ga, hga⟩ : ∃ ga, w1.heap.size = ga := ⟨_, rfl⟩
  rw [hga] at bx1
  go_wp2_with fail
  refine (hl2 _ hR1).mono ?_
  rintro e w2 ⟨rfl, hb2⟩
  have hk2 := below_alloc w2 (.cells #[.int .i64 kw, .int .i64 kn, .bool kb] 54)
  have bx2 := Blk.new' w2 54 #[.int .i64 kw, .int .i64 kn, .bool kb]
  replace bx1 := (bx1.kept hb2).kept hk2
  have hC2 := (hC1.below hb2).below hk2
  have hR2 := (hR1.below hb2).below hk2
  have hB2 := bt (bt hB1 hb2) hk2
  clear hb2 hk2 hl2 hC1 hR1 hB1
  obtain ⟨gb, hgb⟩ : ∃ gb, w2.heap.size = gb := ⟨_, rfl⟩
  rw [hgb] at bx2
  try rw [hga]
  go_upto_region 3 with fail
  try rw [hga]
  try rw [hgb]
  generalize w2.alloc (.cells #[.int .i64 kw, .int .i64 kn, .bool kb] 54) = V at *
  obtain ⟨es, hch⟩ := hst.chip hR2
  obtain ⟨ep, el, ec, hcc, _⟩ := hC2.chip
  refine wp_region_noPanic ?_
  refine wp_region_held_drew (S := Below V.heap.size V) (by kernel_rfl) (Below.refl _ _).drew (fun hHeld => ?_)
  refine wpAnyH_take (i := 0) (v := ?_) rfl (by kernel_rfl) (by kernel_rfl) (by kernel_rfl) (fun _ _ _ h => h) (Or.inl ⟨by rfl, ?_⟩) hHeld ?_
  rotate_left
  · intro w' hSw; try dsimp only at hSw
    obtain ⟨f0, f1, f2⟩ := look3 (bx1.kept hSw)
    go_simp; try (with_reducible rfl)
  try simp only [Act.put, List.getElem_toArray, List.getElem_cons_succ, List.getElem_cons_zero, List.setIfInBounds_toArray, List.set_cons_zero, List.set_cons_succ]
  refine wpAnyH_take (i := 1) (v := ?_) rfl (by kernel_rfl) (by kernel_rfl) (by kernel_rfl) (fun _ _ _ h => h) (Or.inl ⟨by rfl, ?_⟩) hHeld ?_
  rotate_left
  · intro w' hSw; try dsimp only at hSw
    obtain ⟨f0, f1, f2⟩ := look3 (bx2.kept hSw)
    go_simp; try (with_reducible rfl)
  try simp only [Act.put, List.getElem_toArray, List.getElem_cons_succ, List.getElem_cons_zero, List.setIfInBounds_toArray, List.set_cons_zero, List.set_cons_succ]
  refine wpAnyH_take (i := 2) (v := ?_) rfl (by kernel_rfl) (by kernel_rfl) (by kernel_rfl) (fun _ _ _ h => h) (Or.inl ⟨by rfl, ?_⟩) hHeld ?_
  rotate_left
  · intro w' hSw; try dsimp only at hSw
    go_simp; try (with_reducible rfl)
  try simp only [Act.put, List.getElem_toArray, List.getElem_cons_succ, List.getElem_cons_zero, List.setIfInBounds_toArray, List.set_cons_zero, List.set_cons_succ]
  refine wpAnyH_take (i := 3) (v := ?_) rfl (by kernel_rfl) (by kernel_rfl) (by kernel_rfl) (fun _ _ _ h => h) (Or.inl ⟨by rfl, ?_⟩) hHeld ?_
  rotate_left
  · intro w' hSw; try dsimp only at hSw
    go_simp; try (with_reducible rfl)
  try simp only [Act.put, List.getElem_toArray, List.getElem_cons_succ, List.getElem_cons_zero, List.setIfInBounds_toArray, List.set_cons_zero, List.set_cons_succ]
  refine wpAnyH_take (i := 4) (v := ?_) rfl (by kernel_rfl) (by kernel_rfl) (by kernel_rfl) (fun _ _ _ h => h) (Or.inl ⟨by rfl, ?_⟩) hHeld ?_
  rotate_left
  · intro w' hSw; try dsimp only at hSw
    go_simp; try (with_reducible rfl)
  try simp only [Act.put, List.getElem_toArray, List.getElem_cons_succ, List.getElem_cons_zero, List.setIfInBounds_toArray, List.set_cons_zero, List.set_cons_succ]
  refine wpAnyH_take (i := 5) (v := ?_) rfl (by kernel_rfl) (by kernel_rfl) (by kernel_rfl) (fun _ _ _ h => h) (Or.inl ⟨by rfl, ?_⟩) hHeld ?_
  rotate_left
  · intro w' hSw; try dsimp only at hSw
    go_simp; try (with_reducible rfl)
  try simp only [Act.put, List.getElem_toArray, List.getElem_cons_succ, List.getElem_cons_zero, List.setIfInBounds_toArray, List.set_cons_zero, List.set_cons_succ]
  refine wpAnyH_take (i := 6) (v := ?_) rfl (by kernel_rfl) (by kernel_rfl) (by kernel_rfl) (fun _ _ _ h => h) (Or.inl ⟨by rfl, ?_⟩) hHeld ?_
  rotate_left
  · intro w' hSw; try dsimp only at hSw
    go_simp; try (with_reducible rfl)
  try simp only [Act.put, List.getElem_toArray, List.getElem_cons_succ, List.getElem_cons_zero, List.setIfInBounds_toArray, List.set_cons_zero, List.set_cons_succ]
  refine wpAnyH_take (i := 7) (v := ?_) rfl (by kernel_rfl) (by kernel_rfl) (by kernel_rfl) (fun _ _ _ h => h) (Or.inl ⟨by rfl, ?_⟩) hHeld ?_
  rotate_left
  · intro w' hSw; try dsimp only at hSw
    go_simp; try (with_reducible rfl)
  try simp only [Act.put, List.getElem_toArray, List.getElem_cons_succ, List.getElem_cons_zero, List.setIfInBounds_toArray, List.set_cons_zero, List.set_cons_succ]
  refine wpAnyH_take (i := 8) (v := ?_) rfl (by kernel_rfl) (by kernel_rfl) (by kernel_rfl) (fun _ _ _ h => h) (Or.inl ⟨by rfl, ?_⟩) hHeld ?_
  rotate_left
  · intro w' hSw; try dsimp only at hSw
    go_simp; try (with_reducible rfl)
  try simp only [Act.put, List.getElem_toArray, List.getElem_cons_succ, List.getElem_cons_zero, List.setIfInBounds_toArray, List.set_cons_zero, List.set_cons_succ]
  refine wpAnyH_take (i := 9) (v := ?_) rfl (by kernel_rfl) (by kernel_rfl) (by kernel_rfl) (fun _ _ _ h => h) (Or.inl ⟨by rfl, ?_⟩) hHeld ?_
  rotate_left
  · intro w' hSw; try dsimp only at hSw
    go_simp; try (with_reducible rfl)
  try simp only [Act.put, List.getElem_toArray, List.getElem_cons_succ, List.getElem_cons_zero, List.setIfInBounds_toArray, List.set_cons_zero, List.set_cons_succ]
  refine wpAnyH_take (i := 11) (v := ?_) rfl (by kernel_rfl) (by kernel_rfl) (by kernel_rfl) (fun _ _ _ h => h) (Or.inl ⟨by rfl, ?_⟩) hHeld ?_
  rotate_left
  · intro w' hSw; try dsimp only at hSw
    go_simp; try (with_reducible rfl)
  try simp only [Act.put, List.getElem_toArray, List.getElem_cons_succ, List.getElem_cons_zero, List.setIfInBounds_toArray, List.set_cons_zero, List.set_cons_succ]
  refine wpAnyH_take (i := 12) (v := ?_) rfl (by kernel_rfl) (by kernel_rfl) (by kernel_rfl) (fun _ _ _ h => h) (Or.inl ⟨by rfl, ?_⟩) hHeld ?_
  rotate_left
  · intro w' hSw; try dsimp only at hSw
    go_simp; try (with_reducible rfl)
  try simp only [Act.put, List.getElem_toArray, List.getElem_cons_succ, List.getElem_cons_zero, List.setIfInBounds_toArray, List.set_cons_zero, List.set_cons_succ]
  refine wpAnyH_take (i := 13) (v := ?_) rfl (by kernel_rfl) (by kernel_rfl) (by kernel_rfl) (fun _ _ _ h => h) (Or.inl ⟨by rfl, ?_⟩) hHeld ?_
  rotate_left
  · intro w' hSw; try dsimp only at hSw
    go_simp; try (with_reducible rfl)
  try simp only [Act.put, List.getElem_toArray, List.getElem_cons_succ, List.getElem_cons_zero, List.setIfInBounds_toArray, List.set_cons_zero, List.set_cons_succ]
  refine wpAnyH_take (i := 14) (v := ?_) rfl (by kernel_rfl) (by kernel_rfl) (by kernel_rfl) (fun _ _ _ h => h) (Or.inl ⟨by rfl, ?_⟩) hHeld ?_
  rotate_left
  · intro w' hSw; try dsimp only at hSw
    have f3 := (hch.kept hSw).cell' (i := 4) rfl
    have f4 := (hch.kept hSw).cell' (i := 5) rfl
    go_simp; try (with_reducible rfl)
  try simp only [Act.put, List.getElem_toArray, List.getElem_cons_succ, List.getElem_cons_zero, List.setIfInBounds_toArray, List.set_cons_zero, List.set_cons_succ]
  refine wpAnyH_ready (rs := [10]) (by kernel_rfl) (by simp) ?_
  refine AllReadyH.cons rfl (fun K hK => ?_) AllReadyH.nil
  go_simp
  refine (ops_any c _ s.nb s.cr s.ops _ hnb0 ((hcc.kept hHeld).cell' (i := 2) rfl) ((hcc.kept hHeld).cell' (i := 4) rfl)).mono ?_
  rintro e f10 ⟨rfl, hw10⟩
  have hq10 := hw10.symm
  subst hq10
  clear hw10
  refine hK.out _ _ hHeld (fun hHeld => ?_)
  clear hK K
  try simp only [Act.put, List.getElem_toArray, List.getElem_cons_succ, List.getElem_cons_zero, List.setIfInBounds_toArray, List.set_cons_zero, List.set_cons_succ]
  refine wpAnyH_take (i := 15) (v := ?_) rfl (by kernel_rfl) (by kernel_rfl) (by kernel_rfl) (fun _ _ _ h => h) (Or.inl ⟨by rfl, ?_⟩) hHeld ?_
  rotate_left
  · intro w' hSw; try dsimp only at hSw
    go_simp; try (with_reducible rfl)
  try simp only [Act.put, List.getElem_toArray, List.getElem_cons_succ, List.getElem_cons_zero, List.setIfInBounds_toArray, List.set_cons_zero, List.set_cons_succ]
  refine wpAnyH_take (i := 16) (v := ?_) rfl (by kernel_rfl) (by kernel_rfl) (by kernel_rfl) (fun _ _ _ h => h) (Or.inl ⟨by rfl, ?_⟩) hHeld ?_
  rotate_left
  · intro w' hSw; try dsimp only at hSw
    go_simp; try (with_reducible rfl)
  try simp only [Act.put, List.getElem_toArray, List.getElem_cons_succ, List.getElem_cons_zero, List.setIfInBounds_toArray, List.set_cons_zero, List.set_cons_succ]
  refine wpAnyH_take (i := 17) (v := ?_) rfl (by kernel_rfl) (by kernel_rfl) (by kernel_rfl) (fun _ _ _ h => h) (Or.inl ⟨by rfl, ?_⟩) hHeld ?_
  rotate_left
  · intro w' hSw; try dsimp only at hSw
    go_simp; try (with_reducible rfl)
  try simp only [Act.put, List.getElem_toArray, List.getElem_cons_succ, List.getElem_cons_zero, List.setIfInBounds_toArray, List.set_cons_zero, List.set_cons_succ]
  refine wpAnyH_take (i := 18) (v := ?_) rfl (by kernel_rfl) (by kernel_rfl) (by kernel_rfl) (fun _ _ _ h => h) (Or.inl ⟨by rfl, ?_⟩) hHeld ?_
  rotate_left
  · intro w' hSw; try dsimp only at hSw
    go_simp; try (with_reducible rfl)
  try simp only [Act.put, List.getElem_toArray, List.getElem_cons_succ, List.getElem_cons_zero, List.setIfInBounds_toArray, List.set_cons_zero, List.set_cons_succ]
  refine wpAnyH_take (i := 20) (v := ?_) rfl (by kernel_rfl) (by kernel_rfl) (by kernel_rfl) (fun _ _ _ h => h) (Or.inl ⟨by rfl, ?_⟩) hHeld ?_
  rotate_left
  · intro w' hSw; try dsimp only at hSw
    go_simp; try (with_reducible rfl)
  try simp only [Act.put, List.getElem_toArray, List.getElem_cons_succ, List.getElem_cons_zero, List.setIfInBounds_toArray, List.set_cons_zero, List.set_cons_succ]
  refine wpAnyH_take (i := 21) (v := ?_) rfl (by kernel_rfl) (by kernel_rfl) (by kernel_rfl) (fun _ _ _ h => h) (Or.inl ⟨by rfl, ?_⟩) hHeld ?_
  rotate_left
  · intro w' hSw; try dsimp only at hSw
    go_simp; try (with_reducible rfl)
  try simp only [Act.put, List.getElem_toArray, List.getElem_cons_succ, List.getElem_cons_zero, List.setIfInBounds_toArray, List.set_cons_zero, List.set_cons_succ]
  refine wpAnyH_take (i := 22) (v := ?_) rfl (by kernel_rfl) (by kernel_rfl) (by kernel_rfl) (fun _ _ _ h => h) (Or.inl ⟨by rfl, ?_⟩) hHeld ?_
  rotate_left
  · intro w' hSw; try dsimp only at hSw
    go_simp; try (with_reducible rfl)
  try simp only [Act.put, List.getElem_toArray, List.getElem_cons_succ, List.getElem_cons_zero, List.setIfInBounds_toArray, List.set_cons_zero, List.set_cons_succ]
  refine wpAnyH_take (i := 23) (v := ?_) rfl (by kernel_rfl) (by kernel_rfl) (by kernel_rfl) (fun _ _ _ h => h) (Or.inl ⟨by rfl, ?_⟩) hHeld ?_
  rotate_left
  · intro w' hSw; try dsimp only at hSw
    have f3 := (hch.kept hSw).cell' (i := 4) rfl
    have f4 := (hch.kept hSw).cell' (i := 5) rfl
    go_simp; try (with_reducible rfl)
  try simp only [Act.put, List.getElem_toArray, List.getElem_cons_succ, List.getElem_cons_zero, List.setIfInBounds_toArray, List.set_cons_zero, List.set_cons_succ]
  refine wpAnyH_ready (rs := [19]) (by kernel_rfl) (by simp) ?_
  refine AllReadyH.cons rfl (fun K hK => ?_) AllReadyH.nil
  go_simp
  refine (on_any c _ s.nb s.cr s.on _ hnb0 ((hcc.kept hHeld).cell' (i := 2) rfl) ((hcc.kept hHeld).cell' (i := 5) rfl)).mono ?_
  rintro e f19 ⟨rfl, hw19⟩
  have hq19 := hw19.symm
  subst hq19
  clear hw19
  refine hK.out _ _ hHeld (fun hHeld => ?_)
  clear hK K
  try simp only [Act.put, List.getElem_toArray, List.getElem_cons_succ, List.getElem_cons_zero, List.setIfInBounds_toArray, List.set_cons_zero, List.set_cons_succ]
  refine wpAnyH_take (i := 24) (v := ?_) rfl (by kernel_rfl) (by kernel_rfl) (by kernel_rfl) (fun _ _ _ h => h) (Or.inl ⟨by rfl, ?_⟩) hHeld ?_
  rotate_left
  · intro w' hSw; try dsimp only at hSw
    go_simp; try (with_reducible rfl)
  try simp only [Act.put, List.getElem_toArray, List.getElem_cons_succ, List.getElem_cons_zero, List.setIfInBounds_toArray, List.set_cons_zero, List.set_cons_succ]
  refine wpAnyH_take (i := 25) (v := ?_) rfl (by kernel_rfl) (by kernel_rfl) (by kernel_rfl) (fun _ _ _ h => h) (Or.inl ⟨by rfl, ?_⟩) hHeld ?_
  rotate_left
  · intro w' hSw; try dsimp only at hSw
    go_simp; try (with_reducible rfl)
  try simp only [Act.put, List.getElem_toArray, List.getElem_cons_succ, List.getElem_cons_zero, List.setIfInBounds_toArray, List.set_cons_zero, List.set_cons_succ]
  refine wpAnyH_done (by kernel_rfl) ?_ _
  refine NoPanic.normal ?_
  rename_i VZ _
  have hC3 := hC2.below hHeld
  have hR3 := hR2.below hHeld
  have hB3 := bt hB2 hHeld
  clear hC2 hR2 hB2 hHeld hch hcc bx1 bx2
  go_wp2_with fail
  refine (hpa _ hC3).mono ?_
  rintro e w6 ⟨Bs, v6, rfl, hBs6, hcv6, hpv6, hov6, hb6⟩
  have hR6 := hR3.below hb6
  have hB6 := bt hB3 hb6
  clear hC3 hR3 hB3 hpa hb6
  go_wp2_with fail
  refine (hlp _ _ _ hcv6 hpv6).mono ?_
  rintro e w7 ⟨pn, cn, pl, cl, rfl, hrn, hpl, hb7⟩
  have hR7 := hR6.below hb7
  have hB7 := bt hB6 hb7
  clear hR6 hB6 hlp hcv6 hpv6 hb7
  rcases HC.out with ⟨hee, hps⟩ | ⟨i, k, hbi, hbk, hee, hps⟩
  case inr =>
    have hN := HN.out
    rw [hps, allP_length] at hN
    subst hee
    subst hN
    subst hbi
    have HPS : Hid (ps = allP s.np k) := hps
    have HBK : Hid (s.bl[i]? = some k) := hbk
    have hinb : (i : Int) < (s.nb : Int) := by
      have := (List.getElem?_eq_some_iff.1 hbk).1
      omega
    clear HC HN hps hbk
    go_wp2_with fail
    go_loopw [67] (fun t' wr => ∃ j : Nat, j ≤ s.np ∧ t' = .int .i64 (j : Int) ∧ wr.ownsRow w6.heap.size 3 1 (.slice pn s.np cn) s.np (idxL s.np) ∧ PagesIn wr (.slice pl s.np cl) ps ∧ RsIn wr r t g cr PR ∧ Below w.heap.size w wr) (fun t' _ => s.np - (intOf t').toNat)
    case atStart => exact ⟨0, Nat.zero_le _, rfl, hrn, hpl, hR7, hB7⟩
    case round =>
      clear hrn hpl hR7 hB7
      obtain ⟨j, hj, rfl, hrn, hpl, hRw, hBw⟩ := hrel
      by_cases hlj : j < s.np
      · have hjI : (j : Int) < (s.np : Int) := by omega
        obtain ⟨es, hch⟩ := hst.chip hRw
        obtain ⟨BC, hBg, q0, hpv⟩ := hst.blk hRw HBK.out
        rw [← HPS.out] at hpv
        have hpn : ps.length = s.np := by rw [HPS.out, allP_length]
        have hne : ps ≠ [] := fun h => by rw [h] at hpn; simp at hpn; omega
        obtain ⟨y, hy⟩ : ∃ y, ps[j]? = some y := ⟨_, List.getElem?_eq_getElem (by omega)⟩
        have HY : Hid (y.length = 288) := (hisP y (List.mem_of_getElem? hy)).1
        obtain ⟨g1, hg1⟩ : ∃ g1, pl = some ⟨g1, 0, none⟩ := by
          obtain ⟨g, cap, cu, h, _⟩ := hpl.at' hne
          simp only [Value.slice.injEq] at h
          exact ⟨g, h.1⟩
        subst hg1
        generalize PR i = vb at *
        obtain ⟨g2, c2, hg2⟩ : ∃ g2 c2, vb = .slice (some ⟨g2, 0, none⟩) s.np c2 := by
          obtain ⟨g, cap, cu, h, _⟩ := hpv.at' hne
          rw [hpn] at h
          exact ⟨g, cap, h⟩
        subst hg2
        obtain ⟨gn, hgn⟩ : ∃ gn, pn = some ⟨gn, 0, none⟩ := by
          rcases hrn.2 with ⟨_, h0⟩ | ⟨g, cap, cur, h1, _⟩
          · omega
          · cases h1; exact ⟨g, rfl⟩
        subst hgn
        have en := hrn.cells (g := gn) rfl j _ (idxL_at hlj)
        rw [addr_add, Nat.zero_add] at en
        have er := hBg.cell' q0
        have ec2 := hch.cell' (i := 2) rfl
        have hpl' : PagesIn wr (.slice (some ⟨g1, 0, none⟩) ps.length cl) ps := by rw [hpn]; exact hpl
        have hRa := hpl'.range j y hy
        have hlts : gn < wr.heap.size ∧ g < wr.heap.size ∧ r < wr.heap.size ∧ g2 < wr.heap.size := ⟨(hrn.lt gn rfl).2, hBg.lt, hch.lt, hpv.lt rfl⟩
        have hRb : ∀ Y, Below wr.heap.size wr Y → Y.rangeAt g2 (j * 288) (vals y) := fun Y hE => by
          have h9 : PagesIn Y (.slice (some ⟨g2, 0, none⟩) ps.length c2) ps := by rw [hpn]; exact hpv.below hE
          exact h9.range j y hy
        have hqq := fun W => run_equalIn_page W y y HY.out HY.out
        rw [show (y == y) = true from by simp] at hqq
        clear hne q0 hpl' hy
        have HPN : Hid (ps.length = s.np) := hpn
        clear hpn
        go_wp2_with (first
          | (guard_target = wpList _ _ _ (Oper.mk _ (Op.load 46 (Operand.tmp 70)) _ _ _ _ :: _) _ _; refine wpList_load_mid rfl 46 (.tmp 70) rfl g1 (j * 288) rfl (vals y) _ hRa Try.underlying46 rfl (sizeP HY.out) ?_)
          | (refine wpList_store_blk rfl 46 (.tmp 14) (.tmp 71) rfl _ _ (vals y) rfl rfl (Blk.new' wr 46 (vals (fillP 0)).toArray) (by rw [vals_length, HY.out]; simp [vals_length, fillP_length]) (sizeP HY.out) (vals_one _) ?_; intro w10 h10 ht10))
        go_upto_region 11 with fail
        rw [List.take_zero, List.nil_append, Nat.zero_add, List.drop_eq_nil_of_le (by rw [vals_length, vals_length, HY.out, fillP_length]; exact Nat.le_refl _), List.append_nil] at h10
        have hD : Below wr.heap.size wr w10 := ht10.below (below_alloc wr _) (Nat.le_refl _)
        have hE := fun Y (h : Below w10.heap.size w10 Y) => hD.trans (h.mono hD.size)
        clear ht10
        refine wp_region_noPanic ?_
        refine wp_region_held_drew (S := Below w10.heap.size w10) (by kernel_rfl) (Below.refl _ _).drew (fun hHeld => ?_)
        refine wpAnyH_take (i := 0) (v := ?_) rfl (by kernel_rfl) (by kernel_rfl) (by kernel_rfl) (fun _ _ _ h => h) (Or.inl ⟨by rfl, ?_⟩) hHeld ?_
        rotate_left
        · intro w' hSw; try dsimp only at hSw
          go_simp; try (with_reducible rfl)
        try simp only [Act.put, List.getElem_toArray, List.getElem_cons_succ, List.getElem_cons_zero, List.setIfInBounds_toArray, List.set_cons_zero, List.set_cons_succ]
        refine wpAnyH_take (i := 1) (v := ?_) rfl (by kernel_rfl) (by kernel_rfl) (by kernel_rfl) (fun _ _ _ h => h) (Or.inl ⟨by rfl, ?_⟩) hHeld ?_
        rotate_left
        · intro w' hSw; try dsimp only at hSw
          go_simp; try (with_reducible rfl)
        try simp only [Act.put, List.getElem_toArray, List.getElem_cons_succ, List.getElem_cons_zero, List.setIfInBounds_toArray, List.set_cons_zero, List.set_cons_succ]
        refine wpAnyH_take (i := 2) (v := ?_) rfl (by kernel_rfl) (by kernel_rfl) (by kernel_rfl) (fun _ _ _ h => h) (Or.inl ⟨by rfl, ?_⟩) hHeld ?_
        rotate_left
        · intro w' hSw; try dsimp only at hSw
          go_simp; try (with_reducible rfl)
        try simp only [Act.put, List.getElem_toArray, List.getElem_cons_succ, List.getElem_cons_zero, List.setIfInBounds_toArray, List.set_cons_zero, List.set_cons_succ]
        refine wpAnyH_take (i := 3) (v := ?_) rfl (by kernel_rfl) (by kernel_rfl) (by kernel_rfl) (fun _ _ _ h => h) (Or.inl ⟨by rfl, ?_⟩) hHeld ?_
        rotate_left
        · intro w' hSw; try dsimp only at hSw
          have f0 := ((hE _ hSw).cell (p := ⟨gn, j, none⟩) hlts.1).trans en
          go_simp; try (with_reducible rfl)
        try simp only [Act.put, List.getElem_toArray, List.getElem_cons_succ, List.getElem_cons_zero, List.setIfInBounds_toArray, List.set_cons_zero, List.set_cons_succ]
        refine wpAnyH_take (i := 4) (v := ?_) rfl (by kernel_rfl) (by kernel_rfl) (by kernel_rfl) (fun _ _ _ h => h) (Or.inl ⟨by rfl, ?_⟩) hHeld ?_
        rotate_left
        · intro w' hSw; try dsimp only at hSw
          go_simp; try (with_reducible rfl)
        try simp only [Act.put, List.getElem_toArray, List.getElem_cons_succ, List.getElem_cons_zero, List.setIfInBounds_toArray, List.set_cons_zero, List.set_cons_succ]
        refine wpAnyH_take (i := 5) (v := ?_) rfl (by kernel_rfl) (by kernel_rfl) (by kernel_rfl) (fun _ _ _ h => h) (Or.inl ⟨by rfl, ?_⟩) hHeld ?_
        rotate_left
        · intro w' hSw; try dsimp only at hSw
          go_simp; try (with_reducible rfl)
        try simp only [Act.put, List.getElem_toArray, List.getElem_cons_succ, List.getElem_cons_zero, List.setIfInBounds_toArray, List.set_cons_zero, List.set_cons_succ]
        refine wpAnyH_take (i := 6) (v := ?_) rfl (by kernel_rfl) (by kernel_rfl) (by kernel_rfl) (fun _ _ _ h => h) (Or.inl ⟨by rfl, ?_⟩) hHeld ?_
        rotate_left
        · intro w' hSw; try dsimp only at hSw
          go_simp; try (with_reducible rfl)
        try simp only [Act.put, List.getElem_toArray, List.getElem_cons_succ, List.getElem_cons_zero, List.setIfInBounds_toArray, List.set_cons_zero, List.set_cons_succ]
        refine wpAnyH_take (i := 7) (v := .agg (vals y).toArray) rfl (by kernel_rfl) (by kernel_rfl) (by kernel_rfl) (fun _ _ _ h => h) (yieldsIf_load_mid (by rfl) _ _ rfl (wr.heap.size) (0) rfl (vals y) _ (fun w hSw => (h10.kept hSw).range 0 288 _ (by rw [List.drop_zero, List.take_of_length_le (by rw [vals_length, HY.out]; exact Nat.le_refl _)])) Try.underlying46 rfl (sizeP HY.out)) hHeld ?_
        try simp only [Act.put, List.getElem_toArray, List.getElem_cons_succ, List.getElem_cons_zero, List.setIfInBounds_toArray, List.set_cons_zero, List.set_cons_succ]
        refine wpAnyH_take (i := 8) (v := ?_) rfl (by kernel_rfl) (by kernel_rfl) (by kernel_rfl) (fun _ _ _ h => h) (Or.inl ⟨by rfl, ?_⟩) hHeld ?_
        rotate_left
        · intro w' hSw; try dsimp only at hSw
          go_simp; try (with_reducible rfl)
        try simp only [Act.put, List.getElem_toArray, List.getElem_cons_succ, List.getElem_cons_zero, List.setIfInBounds_toArray, List.set_cons_zero, List.set_cons_succ]
        refine wpAnyH_take (i := 9) (v := ?_) rfl (by kernel_rfl) (by kernel_rfl) (by kernel_rfl) (fun _ _ _ h => h) (Or.inl ⟨by rfl, ?_⟩) hHeld ?_
        rotate_left
        · intro w' hSw; try dsimp only at hSw
          go_simp; try (with_reducible rfl)
        try simp only [Act.put, List.getElem_toArray, List.getElem_cons_succ, List.getElem_cons_zero, List.setIfInBounds_toArray, List.set_cons_zero, List.set_cons_succ]
        refine wpAnyH_take (i := 10) (v := ?_) rfl (by kernel_rfl) (by kernel_rfl) (by kernel_rfl) (fun _ _ _ h => h) (Or.inl ⟨by rfl, ?_⟩) hHeld ?_
        rotate_left
        · intro w' hSw; try dsimp only at hSw
          go_simp; try (with_reducible rfl)
        try simp only [Act.put, List.getElem_toArray, List.getElem_cons_succ, List.getElem_cons_zero, List.setIfInBounds_toArray, List.set_cons_zero, List.set_cons_succ]
        refine wpAnyH_take (i := 11) (v := ?_) rfl (by kernel_rfl) (by kernel_rfl) (by kernel_rfl) (fun _ _ _ h => h) (Or.inl ⟨by rfl, ?_⟩) hHeld ?_
        rotate_left
        · intro w' hSw; try dsimp only at hSw
          have f0 := (hch.kept (hE _ hSw)).cell' (i := 2) rfl
          go_simp; try (with_reducible rfl)
        try simp only [Act.put, List.getElem_toArray, List.getElem_cons_succ, List.getElem_cons_zero, List.setIfInBounds_toArray, List.set_cons_zero, List.set_cons_succ]
        refine wpAnyH_take (i := 12) (v := ?_) rfl (by kernel_rfl) (by kernel_rfl) (by kernel_rfl) (fun _ _ _ h => h) (Or.inl ⟨by rfl, ?_⟩) hHeld ?_
        rotate_left
        · intro w' hSw; try dsimp only at hSw
          go_simp; try (with_reducible rfl)
        try simp only [Act.put, List.getElem_toArray, List.getElem_cons_succ, List.getElem_cons_zero, List.setIfInBounds_toArray, List.set_cons_zero, List.set_cons_succ]
        refine wpAnyH_take (i := 13) (v := ?_) rfl (by kernel_rfl) (by kernel_rfl) (by kernel_rfl) (fun _ _ _ h => h) (Or.inl ⟨by rfl, ?_⟩) hHeld ?_
        rotate_left
        · intro w' hSw; try dsimp only at hSw
          go_simp; try (with_reducible rfl)
        try simp only [Act.put, List.getElem_toArray, List.getElem_cons_succ, List.getElem_cons_zero, List.setIfInBounds_toArray, List.set_cons_zero, List.set_cons_succ]
        refine wpAnyH_take (i := 14) (v := ?_) rfl (by kernel_rfl) (by kernel_rfl) (by kernel_rfl) (fun _ _ _ h => h) (Or.inl ⟨by rfl, ?_⟩) hHeld ?_
        rotate_left
        · intro w' hSw; try dsimp only at hSw
          go_simp; try (with_reducible rfl)
        try simp only [Act.put, List.getElem_toArray, List.getElem_cons_succ, List.getElem_cons_zero, List.setIfInBounds_toArray, List.set_cons_zero, List.set_cons_succ]
        refine wpAnyH_take (i := 15) (v := ?_) rfl (by kernel_rfl) (by kernel_rfl) (by kernel_rfl) (fun _ _ _ h => h) (Or.inl ⟨by rfl, ?_⟩) hHeld ?_
        rotate_left
        · intro w' hSw; try dsimp only at hSw
          have f0 := ((hE _ hSw).cell (p := ⟨g, i * 4, none⟩) hlts.2.1).trans er
          go_simp; try (with_reducible rfl)
        try simp only [Act.put, List.getElem_toArray, List.getElem_cons_succ, List.getElem_cons_zero, List.setIfInBounds_toArray, List.set_cons_zero, List.set_cons_succ]
        refine wpAnyH_take (i := 16) (v := ?_) rfl (by kernel_rfl) (by kernel_rfl) (by kernel_rfl) (fun _ _ _ h => h) (Or.inl ⟨by rfl, ?_⟩) hHeld ?_
        rotate_left
        · intro w' hSw; try dsimp only at hSw
          go_simp; try (with_reducible rfl)
        try simp only [Act.put, List.getElem_toArray, List.getElem_cons_succ, List.getElem_cons_zero, List.setIfInBounds_toArray, List.set_cons_zero, List.set_cons_succ]
        refine wpAnyH_take (i := 17) (v := ?_) rfl (by kernel_rfl) (by kernel_rfl) (by kernel_rfl) (fun _ _ _ h => h) (Or.inl ⟨by rfl, ?_⟩) hHeld ?_
        rotate_left
        · intro w' hSw; try dsimp only at hSw
          go_simp; try (with_reducible rfl)
        try simp only [Act.put, List.getElem_toArray, List.getElem_cons_succ, List.getElem_cons_zero, List.setIfInBounds_toArray, List.set_cons_zero, List.set_cons_succ]
        refine wpAnyH_take (i := 18) (v := .agg (vals y).toArray) rfl (by kernel_rfl) (by kernel_rfl) (by kernel_rfl) (fun _ _ _ h => h) (yieldsIf_load_mid (by rfl) _ _ rfl (g2) (j * 288) rfl (vals y) _ (fun w hSw => hRb _ (hE _ hSw)) Try.underlying46 rfl (sizeP HY.out)) hHeld ?_
        try simp only [Act.put, List.getElem_toArray, List.getElem_cons_succ, List.getElem_cons_zero, List.setIfInBounds_toArray, List.set_cons_zero, List.set_cons_succ]
        refine wpAnyH_take (i := 19) (v := ?_) rfl (by kernel_rfl) (by kernel_rfl) (by kernel_rfl) (fun _ _ _ h => h) (Or.inl ⟨by rfl, ?_⟩) hHeld ?_
        rotate_left
        · intro w' hSw; try dsimp only at hSw
          go_simp; try (with_reducible rfl)
        try simp only [Act.put, List.getElem_toArray, List.getElem_cons_succ, List.getElem_cons_zero, List.setIfInBounds_toArray, List.set_cons_zero, List.set_cons_succ]
        refine wpAnyH_take (i := 20) (v := ?_) rfl (by kernel_rfl) (by kernel_rfl) (by kernel_rfl) (fun _ _ _ h => h) (Or.inl ⟨by rfl, ?_⟩) hHeld ?_
        rotate_left
        · intro w' hSw; try dsimp only at hSw
          go_simp; try (with_reducible rfl)
        try simp only [Act.put, List.getElem_toArray, List.getElem_cons_succ, List.getElem_cons_zero, List.setIfInBounds_toArray, List.set_cons_zero, List.set_cons_succ]
        refine wpAnyH_done (by kernel_rfl) ?_ _
        refine NoPanic.normal ?_
        go_wp2
        go_roundw
        case rel => exact ⟨j + 1, by omega, by go_num, owns_belowS hrn (hE _ hHeld), hpl.below (hE _ hHeld), hRw.below (hE _ hHeld), bt hBw (hE _ hHeld)⟩
        case measure => simp [intOf]; omega
      · obtain rfl : j = s.np := by omega
        have hkn : ¬ (s.np : Int) < (s.np : Int) := by omega
        obtain ⟨es, hch⟩ := hst.chip hRw
        have c1 := hch.cell' (i := 1) rfl
        go_wp2
        go_ret
        exact ⟨rfl, hBw⟩
  case inl =>
    have hN := HN.out
    rw [hps] at hN
    subst hee
    subst hN
    clear HC HN
    go_wp2_with fail
    go_ret
    exact ⟨rfl, hB7⟩
end Go.Proofs.Ythafcnilhloldaa
