/-
  A new chip of both sides is the same, as the law sees it.
-/
import Derived.Test.YthafcnilhloldaaNRLook
import Derived.Test.YthafcnilhloldaaNLPages2
import Derived.Test.YthafcnilhloldaaNEq
import Derived.Deep.RegionHeld3
import Derived.Deep.Cut
namespace Go.Proofs.Ythafcnilhloldaa
open Go.RowKit
def idxL (n : Nat) : List Value := (List.range n).map fun i : Nat => Value.int .i64 (i : Int)
theorem intsOf_upto (ps : List PageT) (n : Nat) (h : ps.length = n) : intsOf (upto ps n) = idxL n := by
  subst h
  unfold intsOf upto idxL
  rw [List.take_of_length_le (Nat.le_refl _)]
  apply List.ext_getElem?
  intro j
  simp only [List.getElem?_map, List.getElem?_mapIdx]
  by_cases hj : j < ps.length
  · rw [List.getElem?_eq_getElem hj, List.getElem?_range hj]; rfl
  · rw [List.getElem?_eq_none (by omega), List.getElem?_eq_none (by rw [List.length_range]; omega)]; rfl
theorem idxL_at {n j : Nat} (h : j < n) : (idxL n)[j]? = some (.int .i64 (j : Int)) := by
  unfold idxL
  rw [List.getElem?_map, List.getElem?_range h]; rfl
theorem lpages_new (Bs : Nat) (v : Value) (n : Nat) (w : World) (hBs : w.cell? ⟨Bs, 0, none⟩ = some v) (hp : PagesIn w v (List.replicate n (fillP 255))) (hl : n ≤ 32) :
    Calls Try.prog 22 #[.func (.func 56) #[] #[.pointer (some ⟨Bs, 0, none⟩)], .int .i64 99] w fun e w' => ∃ pn cn pl cl, e = .returned (.tuple #[.slice pn n cn, .slice pl n cl]) ∧ w'.ownsRow w.heap.size 3 1 (.slice pn n cn) n (idxL n) ∧ PagesIn w' (.slice pl n cl) (List.replicate n (fillP 255)) ∧ Below w.heap.size w w' := by
  have e : (List.replicate n (⟨fillP 255, isP_fill 255 (by omega)⟩ : PageT)).map (·.1) = List.replicate n (fillP 255) := by rw [List.map_replicate]
  refine (lpages_any Bs v (List.replicate n ⟨fillP 255, isP_fill 255 (by omega)⟩) w hBs (by rw [e]; exact hp) (by rw [List.length_replicate]; exact hl)).mono ?_
  rintro x w' ⟨vn, vl, rfl, h1, h2, hb⟩
  rw [List.length_replicate] at h1 h2
  rw [intsOf_upto _ _ List.length_replicate] at h1
  rw [e] at h2
  obtain ⟨pn, cn, rfl⟩ := owns_slice h1
  obtain ⟨pl, cl, rfl⟩ := owns_slice h2
  exact ⟨pn, cn, pl, cl, rfl, h1, ⟨by rw [List.length_replicate]; exact owns_zero h2, fun p hp => by rw [List.eq_of_mem_replicate hp]; exact isP_fill 255 (by omega)⟩, hb⟩
theorem new_pages {nb np : Nat} {es : List Ev} {m : List Bool} {b : Int} (hm : m.length = nb) : pagesOf (newStB nb np es m) b = List.replicate (if 0 ≤ b ∧ b < (nb : Int) then np else 0) (fillP 255) := by
  unfold pagesOf
  rw [new_blk]
  by_cases h : 0 ≤ b ∧ b < (nb : Int)
  · rw [if_pos h, if_pos h.1, List.getElem?_eq_getElem (by rw [hm]; omega)]
    show allP np _ = _
    unfold allP
    apply List.ext_getElem?
    intro j
    rw [List.getElem?_map, List.getElem?_replicate]
    by_cases hj : j < np
    · rw [List.getElem?_range hj, if_pos hj]; rfl
    · rw [List.getElem?_eq_none (by rw [List.length_range]; omega), if_neg hj]; rfl
  · rw [if_neg h]
    by_cases h0 : 0 ≤ b
    · rw [if_pos h0, List.getElem?_eq_none (by rw [hm]; omega)]; rfl
    · rw [if_neg h0]; rfl
theorem new_err {nb np : Nat} {es : List Ev} {m : List Bool} {b : Int} (hm : m.length = nb) : lkE (newStB nb np es m) b = if 0 ≤ b ∧ b < (nb : Int) then 0 else 22 := by
  unfold lkE
  rw [new_blk]
  by_cases h : 0 ≤ b ∧ b < (nb : Int)
  · rw [if_pos h, if_pos h.1, List.getElem?_eq_getElem (by rw [hm]; omega)]; rfl
  · rw [if_neg h]
    by_cases h0 : 0 ≤ b
    · rw [if_pos h0, List.getElem?_eq_none (by rw [hm]; omega)]; rfl
    · rw [if_neg h0]
theorem rep_range {w : World} {g n cap : Nat} {p : List Nat} (h : PagesIn w (.slice (some ⟨g, 0, none⟩) n cap) (List.replicate n p)) {j : Nat} (hj : j < n) : w.rangeAt g (j * 288) (vals p) :=
  PagesIn.range (ps := List.replicate n p) (cap := cap) (by rw [List.length_replicate]; exact h) j p (by rw [List.getElem?_replicate, if_pos hj])
theorem look3 {w : World} {g : Nat} {a b c : Value} (h : Blk w g 54 [a, b, c]) : w.cell? ⟨g, 0, none⟩ = some a ∧ w.cell? ⟨g, 1, none⟩ = some b ∧ w.cell? ⟨g, 2, none⟩ = some c := ⟨h.cell' (i := 0) rfl, h.cell' (i := 1) rfl, h.cell' (i := 2) rfl⟩
set_option linter.unusedSimpArgs false in
set_option linter.unusedVariables false in
set_option maxRecDepth 100000 in
set_option maxHeartbeats 8000000 in
theorem same_new (c r bb B nb np : Nat) (PV : Nat → Value) (es : List Ev) (m : List Bool) (L : List Value) (b : Int) (w : World) (hC : ChipIn w c (newStB nb np es m) bb PV) (hR : RcIn w r B nb np L m) (hg : GeoOk nb np) :
    Calls Try.prog 13 #[.pointer (some ⟨c, 0, none⟩), .pointer (some ⟨r, 0, none⟩), .int .i64 b] w fun e w' => e = .returned (.bool true) ∧ Below w.heap.size w w' := by
  have hz := zeroPage
  have h32 : np ≤ 32 := by unfold GeoOk at hg; omega
  have hnb0 : 0 < nb := by unfold GeoOk at hg; omega
  clear hg
  have hpo := new_pages (np := np) (es := es) (b := b) hR.ml
  have hee := new_err (np := np) (es := es) (b := b) hR.ml
  have hl1 := look_any c (newStB nb np es m) bb PV b w hC
  have hl2 := fun w' (h : RcIn w' r B nb np L m) => rlook_any r B nb np L es m b w' h
  have hpa := fun w' (h : ChipIn w' c (newStB nb np es m) bb PV) => pages_any c (newStB nb np es m) bb PV b w' h
  rw [hpo] at hpa
  generalize lkW (newStB nb np es m) b = kw at *
  generalize lkN (newStB nb np es m) b = kn at *
  generalize lkB (newStB nb np es m) b = kb at *
  generalize lkE (newStB nb np es m) b = ke at *
  have hlp := fun Bs v w' h1 h2 => lpages_new Bs v (if 0 ≤ b ∧ b < (nb : Int) then np else 0) w' h1 h2 (by split <;> omega)
  obtain ⟨N, hN⟩ : ∃ N, (if 0 ≤ b ∧ b < (nb : Int) then np else 0) = N := ⟨_, rfl⟩
  rw [hN] at hpa hlp
  have HEE : Hid (ke = if 0 ≤ b ∧ b < (nb : Int) then 0 else 22) := hee
  have HN : Hid ((if 0 ≤ b ∧ b < (nb : Int) then np else 0) = N) := hN
  clear hpo hee hN
  go_enter Try.func13, Try.ntmps13
  go_wp2_with fail
  refine hl1.mono ?_
  rintro e w1 ⟨rfl, hb1⟩
  have hk1 := below_alloc w1 (.cells #[.int .i64 kw, .int .i64 kn, .bool kb] 54)
  have bx1 := Blk.new' w1 54 #[.int .i64 kw, .int .i64 kn, .bool kb]
  have hC1 := (hC.below hb1).below hk1
  have hR1 := (hR.below hb1).below hk1
  have hB1 := bt hb1 hk1
  clear hb1 hk1 hl1 hC hR
  obtain ⟨ga, hga⟩ : ∃ ga, w1.heap.size = ga := ⟨_, rfl⟩
  rw [hga] at bx1
  go_wp2_with fail
  refine (hl2 _ hR1).mono ?_
  rintro e w2 ⟨rfl, hb2⟩
  have hk2 := below_alloc w2 (.cells #[.int .i64 kw, .int .i64 kn, .bool kb] 54)
  have bx2 := Blk.new' w2 54 #[.int .i64 kw, .int .i64 kn, .bool kb]
  replace bx1 := (bx1.kept hb2).kept hk2
  have hC2 := (hC1.below hb2).below hk2
  have hR2 := (hR1.below hb2).below hk2
  have hB2 := bt (bt hB1 hb2) hk2
  clear hb2 hk2 hl2 hC1 hR1 hB1
  obtain ⟨gb, hgb⟩ : ∃ gb, w2.heap.size = gb := ⟨_, rfl⟩
  rw [hgb] at bx2
  try rw [hga]
  go_upto_region 3 with fail
  try rw [hga]
  try rw [hgb]
  generalize w2.alloc (.cells #[.int .i64 kw, .int .i64 kn, .bool kb] 54) = V at *
  obtain ⟨v, ve, hch, hrow⟩ := hR2.chip
  obtain ⟨ep, el, ec, hcc, _⟩ := hC2.chip
  refine wp_region_noPanic ?_
  refine wp_region_held_drew (S := Below V.heap.size V) (by kernel_rfl) (Below.refl _ _).drew (fun hHeld => ?_)
  refine wpAnyH_take (i := 0) (v := ?_) rfl (by kernel_rfl) (by kernel_rfl) (by kernel_rfl) (fun _ _ _ h => h) (Or.inl ⟨by rfl, ?_⟩) hHeld ?_
  rotate_left
  · intro w' hSw; try dsimp only at hSw
    obtain ⟨f0, f1, f2⟩ := look3 (bx1.kept hSw)
    go_simp; try (with_reducible rfl)
  try simp only [Act.put, List.getElem_toArray, List.getElem_cons_succ, List.getElem_cons_zero, List.setIfInBounds_toArray, List.set_cons_zero, List.set_cons_succ]
  refine wpAnyH_take (i := 1) (v := ?_) rfl (by kernel_rfl) (by kernel_rfl) (by kernel_rfl) (fun _ _ _ h => h) (Or.inl ⟨by rfl, ?_⟩) hHeld ?_
  rotate_left
  · intro w' hSw; try dsimp only at hSw
    obtain ⟨f0, f1, f2⟩ := look3 (bx2.kept hSw)
    go_simp; try (with_reducible rfl)
  try simp only [Act.put, List.getElem_toArray, List.getElem_cons_succ, List.getElem_cons_zero, List.setIfInBounds_toArray, List.set_cons_zero, List.set_cons_succ]
  refine wpAnyH_take (i := 2) (v := ?_) rfl (by kernel_rfl) (by kernel_rfl) (by kernel_rfl) (fun _ _ _ h => h) (Or.inl ⟨by rfl, ?_⟩) hHeld ?_
  rotate_left
  · intro w' hSw; try dsimp only at hSw
    go_simp; try (with_reducible rfl)
  try simp only [Act.put, List.getElem_toArray, List.getElem_cons_succ, List.getElem_cons_zero, List.setIfInBounds_toArray, List.set_cons_zero, List.set_cons_succ]
  refine wpAnyH_take (i := 3) (v := ?_) rfl (by kernel_rfl) (by kernel_rfl) (by kernel_rfl) (fun _ _ _ h => h) (Or.inl ⟨by rfl, ?_⟩) hHeld ?_
  rotate_left
  · intro w' hSw; try dsimp only at hSw
    go_simp; try (with_reducible rfl)
  try simp only [Act.put, List.getElem_toArray, List.getElem_cons_succ, List.getElem_cons_zero, List.setIfInBounds_toArray, List.set_cons_zero, List.set_cons_succ]
  refine wpAnyH_take (i := 4) (v := ?_) rfl (by kernel_rfl) (by kernel_rfl) (by kernel_rfl) (fun _ _ _ h => h) (Or.inl ⟨by rfl, ?_⟩) hHeld ?_
  rotate_left
  · intro w' hSw; try dsimp only at hSw
    go_simp; try (with_reducible rfl)
  try simp only [Act.put, List.getElem_toArray, List.getElem_cons_succ, List.getElem_cons_zero, List.setIfInBounds_toArray, List.set_cons_zero, List.set_cons_succ]
  refine wpAnyH_take (i := 5) (v := ?_) rfl (by kernel_rfl) (by kernel_rfl) (by kernel_rfl) (fun _ _ _ h => h) (Or.inl ⟨by rfl, ?_⟩) hHeld ?_
  rotate_left
  · intro w' hSw; try dsimp only at hSw
    go_simp; try (with_reducible rfl)
  try simp only [Act.put, List.getElem_toArray, List.getElem_cons_succ, List.getElem_cons_zero, List.setIfInBounds_toArray, List.set_cons_zero, List.set_cons_succ]
  refine wpAnyH_take (i := 6) (v := ?_) rfl (by kernel_rfl) (by kernel_rfl) (by kernel_rfl) (fun _ _ _ h => h) (Or.inl ⟨by rfl, ?_⟩) hHeld ?_
  rotate_left
  · intro w' hSw; try dsimp only at hSw
    go_simp; try (with_reducible rfl)
  try simp only [Act.put, List.getElem_toArray, List.getElem_cons_succ, List.getElem_cons_zero, List.setIfInBounds_toArray, List.set_cons_zero, List.set_cons_succ]
  refine wpAnyH_take (i := 7) (v := ?_) rfl (by kernel_rfl) (by kernel_rfl) (by kernel_rfl) (fun _ _ _ h => h) (Or.inl ⟨by rfl, ?_⟩) hHeld ?_
  rotate_left
  · intro w' hSw; try dsimp only at hSw
    go_simp; try (with_reducible rfl)
  try simp only [Act.put, List.getElem_toArray, List.getElem_cons_succ, List.getElem_cons_zero, List.setIfInBounds_toArray, List.set_cons_zero, List.set_cons_succ]
  refine wpAnyH_take (i := 8) (v := ?_) rfl (by kernel_rfl) (by kernel_rfl) (by kernel_rfl) (fun _ _ _ h => h) (Or.inl ⟨by rfl, ?_⟩) hHeld ?_
  rotate_left
  · intro w' hSw; try dsimp only at hSw
    go_simp; try (with_reducible rfl)
  try simp only [Act.put, List.getElem_toArray, List.getElem_cons_succ, List.getElem_cons_zero, List.setIfInBounds_toArray, List.set_cons_zero, List.set_cons_succ]
  refine wpAnyH_take (i := 9) (v := ?_) rfl (by kernel_rfl) (by kernel_rfl) (by kernel_rfl) (fun _ _ _ h => h) (Or.inl ⟨by rfl, ?_⟩) hHeld ?_
  rotate_left
  · intro w' hSw; try dsimp only at hSw
    go_simp; try (with_reducible rfl)
  try simp only [Act.put, List.getElem_toArray, List.getElem_cons_succ, List.getElem_cons_zero, List.setIfInBounds_toArray, List.set_cons_zero, List.set_cons_succ]
  refine wpAnyH_take (i := 11) (v := ?_) rfl (by kernel_rfl) (by kernel_rfl) (by kernel_rfl) (fun _ _ _ h => h) (Or.inl ⟨by rfl, ?_⟩) hHeld ?_
  rotate_left
  · intro w' hSw; try dsimp only at hSw
    go_simp; try (with_reducible rfl)
  try simp only [Act.put, List.getElem_toArray, List.getElem_cons_succ, List.getElem_cons_zero, List.setIfInBounds_toArray, List.set_cons_zero, List.set_cons_succ]
  refine wpAnyH_take (i := 12) (v := ?_) rfl (by kernel_rfl) (by kernel_rfl) (by kernel_rfl) (fun _ _ _ h => h) (Or.inl ⟨by rfl, ?_⟩) hHeld ?_
  rotate_left
  · intro w' hSw; try dsimp only at hSw
    go_simp; try (with_reducible rfl)
  try simp only [Act.put, List.getElem_toArray, List.getElem_cons_succ, List.getElem_cons_zero, List.setIfInBounds_toArray, List.set_cons_zero, List.set_cons_succ]
  refine wpAnyH_take (i := 13) (v := ?_) rfl (by kernel_rfl) (by kernel_rfl) (by kernel_rfl) (fun _ _ _ h => h) (Or.inl ⟨by rfl, ?_⟩) hHeld ?_
  rotate_left
  · intro w' hSw; try dsimp only at hSw
    go_simp; try (with_reducible rfl)
  try simp only [Act.put, List.getElem_toArray, List.getElem_cons_succ, List.getElem_cons_zero, List.setIfInBounds_toArray, List.set_cons_zero, List.set_cons_succ]
  refine wpAnyH_take (i := 14) (v := ?_) rfl (by kernel_rfl) (by kernel_rfl) (by kernel_rfl) (fun _ _ _ h => h) (Or.inl ⟨by rfl, ?_⟩) hHeld ?_
  rotate_left
  · intro w' hSw; try dsimp only at hSw
    have f3 := (hch.kept hSw).cell' (i := 4) rfl
    have f4 := (hch.kept hSw).cell' (i := 5) rfl
    go_simp; try (with_reducible rfl)
  try simp only [Act.put, List.getElem_toArray, List.getElem_cons_succ, List.getElem_cons_zero, List.setIfInBounds_toArray, List.set_cons_zero, List.set_cons_succ]
  refine wpAnyH_ready (rs := [10]) (by kernel_rfl) (by simp) ?_
  refine AllReadyH.cons rfl (fun K hK => ?_) AllReadyH.nil
  go_simp
  refine (ops_any c _ nb nb 0 _ hnb0 ((hcc.kept hHeld).cell' (i := 2) rfl) ((hcc.kept hHeld).cell' (i := 4) rfl)).mono ?_
  rintro e f10 ⟨rfl, hw10⟩
  have hq10 := hw10.symm
  subst hq10
  clear hw10
  refine hK.out _ _ hHeld (fun hHeld => ?_)
  clear hK K
  try simp only [Act.put, List.getElem_toArray, List.getElem_cons_succ, List.getElem_cons_zero, List.setIfInBounds_toArray, List.set_cons_zero, List.set_cons_succ]
  refine wpAnyH_take (i := 15) (v := ?_) rfl (by kernel_rfl) (by kernel_rfl) (by kernel_rfl) (fun _ _ _ h => h) (Or.inl ⟨by rfl, ?_⟩) hHeld ?_
  rotate_left
  · intro w' hSw; try dsimp only at hSw
    go_simp; try (with_reducible rfl)
  try simp only [Act.put, List.getElem_toArray, List.getElem_cons_succ, List.getElem_cons_zero, List.setIfInBounds_toArray, List.set_cons_zero, List.set_cons_succ]
  refine wpAnyH_take (i := 16) (v := ?_) rfl (by kernel_rfl) (by kernel_rfl) (by kernel_rfl) (fun _ _ _ h => h) (Or.inl ⟨by rfl, ?_⟩) hHeld ?_
  rotate_left
  · intro w' hSw; try dsimp only at hSw
    go_simp; try (with_reducible rfl)
  try simp only [Act.put, List.getElem_toArray, List.getElem_cons_succ, List.getElem_cons_zero, List.setIfInBounds_toArray, List.set_cons_zero, List.set_cons_succ]
  refine wpAnyH_take (i := 17) (v := ?_) rfl (by kernel_rfl) (by kernel_rfl) (by kernel_rfl) (fun _ _ _ h => h) (Or.inl ⟨by rfl, ?_⟩) hHeld ?_
  rotate_left
  · intro w' hSw; try dsimp only at hSw
    go_simp; try (with_reducible rfl)
  try simp only [Act.put, List.getElem_toArray, List.getElem_cons_succ, List.getElem_cons_zero, List.setIfInBounds_toArray, List.set_cons_zero, List.set_cons_succ]
  refine wpAnyH_take (i := 18) (v := ?_) rfl (by kernel_rfl) (by kernel_rfl) (by kernel_rfl) (fun _ _ _ h => h) (Or.inl ⟨by rfl, ?_⟩) hHeld ?_
  rotate_left
  · intro w' hSw; try dsimp only at hSw
    go_simp; try (with_reducible rfl)
  try simp only [Act.put, List.getElem_toArray, List.getElem_cons_succ, List.getElem_cons_zero, List.setIfInBounds_toArray, List.set_cons_zero, List.set_cons_succ]
  refine wpAnyH_take (i := 20) (v := ?_) rfl (by kernel_rfl) (by kernel_rfl) (by kernel_rfl) (fun _ _ _ h => h) (Or.inl ⟨by rfl, ?_⟩) hHeld ?_
  rotate_left
  · intro w' hSw; try dsimp only at hSw
    go_simp; try (with_reducible rfl)
  try simp only [Act.put, List.getElem_toArray, List.getElem_cons_succ, List.getElem_cons_zero, List.setIfInBounds_toArray, List.set_cons_zero, List.set_cons_succ]
  refine wpAnyH_take (i := 21) (v := ?_) rfl (by kernel_rfl) (by kernel_rfl) (by kernel_rfl) (fun _ _ _ h => h) (Or.inl ⟨by rfl, ?_⟩) hHeld ?_
  rotate_left
  · intro w' hSw; try dsimp only at hSw
    go_simp; try (with_reducible rfl)
  try simp only [Act.put, List.getElem_toArray, List.getElem_cons_succ, List.getElem_cons_zero, List.setIfInBounds_toArray, List.set_cons_zero, List.set_cons_succ]
  refine wpAnyH_take (i := 22) (v := ?_) rfl (by kernel_rfl) (by kernel_rfl) (by kernel_rfl) (fun _ _ _ h => h) (Or.inl ⟨by rfl, ?_⟩) hHeld ?_
  rotate_left
  · intro w' hSw; try dsimp only at hSw
    go_simp; try (with_reducible rfl)
  try simp only [Act.put, List.getElem_toArray, List.getElem_cons_succ, List.getElem_cons_zero, List.setIfInBounds_toArray, List.set_cons_zero, List.set_cons_succ]
  refine wpAnyH_take (i := 23) (v := ?_) rfl (by kernel_rfl) (by kernel_rfl) (by kernel_rfl) (fun _ _ _ h => h) (Or.inl ⟨by rfl, ?_⟩) hHeld ?_
  rotate_left
  · intro w' hSw; try dsimp only at hSw
    have f3 := (hch.kept hSw).cell' (i := 4) rfl
    have f4 := (hch.kept hSw).cell' (i := 5) rfl
    go_simp; try (with_reducible rfl)
  try simp only [Act.put, List.getElem_toArray, List.getElem_cons_succ, List.getElem_cons_zero, List.setIfInBounds_toArray, List.set_cons_zero, List.set_cons_succ]
  refine wpAnyH_ready (rs := [19]) (by kernel_rfl) (by simp) ?_
  refine AllReadyH.cons rfl (fun K hK => ?_) AllReadyH.nil
  go_simp
  refine (on_any c _ nb nb true _ hnb0 ((hcc.kept hHeld).cell' (i := 2) rfl) ((hcc.kept hHeld).cell' (i := 5) rfl)).mono ?_
  rintro e f19 ⟨rfl, hw19⟩
  have hq19 := hw19.symm
  subst hq19
  clear hw19
  refine hK.out _ _ hHeld (fun hHeld => ?_)
  clear hK K
  try simp only [Act.put, List.getElem_toArray, List.getElem_cons_succ, List.getElem_cons_zero, List.setIfInBounds_toArray, List.set_cons_zero, List.set_cons_succ]
  refine wpAnyH_take (i := 24) (v := ?_) rfl (by kernel_rfl) (by kernel_rfl) (by kernel_rfl) (fun _ _ _ h => h) (Or.inl ⟨by rfl, ?_⟩) hHeld ?_
  rotate_left
  · intro w' hSw; try dsimp only at hSw
    go_simp; try (with_reducible rfl)
  try simp only [Act.put, List.getElem_toArray, List.getElem_cons_succ, List.getElem_cons_zero, List.setIfInBounds_toArray, List.set_cons_zero, List.set_cons_succ]
  refine wpAnyH_take (i := 25) (v := ?_) rfl (by kernel_rfl) (by kernel_rfl) (by kernel_rfl) (fun _ _ _ h => h) (Or.inl ⟨by rfl, ?_⟩) hHeld ?_
  rotate_left
  · intro w' hSw; try dsimp only at hSw
    go_simp; try (with_reducible rfl)
  try simp only [Act.put, List.getElem_toArray, List.getElem_cons_succ, List.getElem_cons_zero, List.setIfInBounds_toArray, List.set_cons_zero, List.set_cons_succ]
  refine wpAnyH_done (by kernel_rfl) ?_ _
  refine NoPanic.normal ?_
  rename_i VZ _
  have hC3 := hC2.below hHeld
  have hR3 := hR2.below hHeld
  have hB3 := bt hB2 hHeld
  clear hC2 hR2 hB2 hHeld hch hrow hcc bx1 bx2
  go_wp2_with fail
  refine (hpa _ hC3).mono ?_
  rintro e w6 ⟨Bs, v6, rfl, hBs6, hcv6, hpv6, hov6, hb6⟩
  have hR6 := hR3.below hb6
  have hB6 := bt hB3 hb6
  clear hC3 hR3 hB3 hpa hb6
  go_wp2_with fail
  refine (hlp _ _ _ hcv6 hpv6).mono ?_
  rintro e w7 ⟨pn, cn, pl, cl, rfl, hrn, hpl, hb7⟩
  have hR7 := hR6.below hb7
  have hB7 := bt hB6 hb7
  clear hR6 hB6 hlp hcv6 hpv6 hb7
  by_cases hin : 0 ≤ b ∧ b < (nb : Int)
  · have hee := HEE.out
    have hN := HN.out
    rw [if_pos hin] at hee hN
    subst hee
    subst hN
    clear HEE HN
    obtain ⟨i, rfl⟩ : ∃ i : Nat, b = (i : Int) := ⟨b.toNat, by omega⟩
    go_wp2_with fail
    go_loopw [67] (fun t wr => ∃ j : Nat, j ≤ np ∧ t = .int .i64 (j : Int) ∧ wr.ownsRow w6.heap.size 3 1 (.slice pn np cn) np (idxL np) ∧ PagesIn wr (.slice pl np cl) (List.replicate np (fillP 255)) ∧ RcIn wr r B nb np L m ∧ Below w.heap.size w wr) (fun t _ => np - (intOf t).toNat)
    case atStart => exact ⟨0, Nat.zero_le _, rfl, hrn, hpl, hR7, hB7⟩
    case round =>
      clear hrn hpl hR7 hB7
      obtain ⟨j, hj, rfl, hrn, hpl, hRw, hBw⟩ := hrel
      by_cases hlj : j < np
      · have hne : List.replicate np (fillP 255) ≠ [] := fun h => by have := congrArg List.length h; rw [List.length_replicate, List.length_nil] at this; omega
        have hjI : (j : Int) < (np : Int) := by omega
        obtain ⟨v, ve, hch, hrow⟩ := hRw.chip
        have hil : i < m.length := by rw [hRw.ml]; omega
        obtain ⟨x, hx⟩ : ∃ x, m[i]? = some x := ⟨_, List.getElem?_eq_getElem hil⟩
        obtain ⟨q0, _⟩ := rcOf_at (zip_atL (hRw.ll.trans hRw.ml.symm) hx)
        have hvm : L.getD i undef ∈ L := by
          have hlt : i < L.length := by rw [hRw.ll]; omega
          rw [List.getD_eq_getElem?_getD, List.getElem?_eq_getElem hlt]
          exact List.getElem_mem hlt
        have hpv := hRw.pg _ hvm
        dsimp only at q0
        generalize L.getD i undef = vb at *
        obtain ⟨g1, hg1⟩ : ∃ g1, pl = some ⟨g1, 0, none⟩ := by
          obtain ⟨g, cap, cu, h, _⟩ := hpl.at' hne
          simp only [Value.slice.injEq] at h
          exact ⟨g, h.1⟩
        subst hg1
        obtain ⟨g2, c2, hg2⟩ : ∃ g2 c2, vb = .slice (some ⟨g2, 0, none⟩) np c2 := by
          obtain ⟨g, cap, cu, h, _⟩ := hpv.at' hne
          rw [List.length_replicate] at h
          exact ⟨g, cap, h⟩
        subst hg2
        obtain ⟨gr, cr, hvv⟩ : ∃ gr cr, v = .slice (some ⟨gr, 0, none⟩) nb cr := by
          rcases hrow.2 with ⟨_, h0⟩ | ⟨gr, cap, cur, h1, _⟩
          · omega
          · exact ⟨gr, cap, h1⟩
        subst hvv
        obtain ⟨gn, hgn⟩ : ∃ gn, pn = some ⟨gn, 0, none⟩ := by
          rcases hrn.2 with ⟨_, h0⟩ | ⟨g, cap, cur, h1, _⟩
          · omega
          · cases h1; exact ⟨g, rfl⟩
        subst hgn
        have en := hrn.cells (g := gn) rfl j _ (idxL_at hlj)
        have er := hrow.cells (g := gr) rfl _ _ q0
        rw [addr_add, Nat.zero_add] at en er
        have ec2 := hch.cell' (i := 2) rfl
        have hRa := rep_range hpl hlj
        have hlts : gn < wr.heap.size ∧ gr < wr.heap.size ∧ r < wr.heap.size ∧ g2 < wr.heap.size := ⟨(hrn.lt gn rfl).2, (hrow.lt gr rfl).2, hch.lt, hpv.lt rfl⟩
        obtain ⟨y, hy⟩ : ∃ y, fillP 255 = y := ⟨_, rfl⟩
        have HY : Hid (y.length = 288) := by show _ = _; rw [← hy]; exact fillP_length _
        rw [hy] at hRa
        have hRb : ∀ Y, Below wr.heap.size wr Y → Y.rangeAt g2 (j * 288) (vals y) := fun Y hE => by rw [← hy]; exact rep_range (hpv.below hE) hlj
        have hqq := fun W => run_equalIn_page W y y HY.out HY.out
        rw [show (y == y) = true from by simp] at hqq
        clear hne hil hx hvm q0
        go_wp2_with (first
          | (guard_target = wpList _ _ _ (Oper.mk _ (Op.load 46 (Operand.tmp 70)) _ _ _ _ :: _) _ _; refine wpList_load_mid rfl 46 (.tmp 70) rfl g1 (j * 288) rfl (vals y) _ hRa Try.underlying46 rfl (sizeP HY.out) ?_)
          | (refine wpList_store_blk rfl 46 (.tmp 14) (.tmp 71) rfl _ _ (vals y) rfl rfl (Blk.new' wr 46 (vals (fillP 0)).toArray) (by rw [vals_length, HY.out]; simp [vals_length, fillP_length]) (sizeP HY.out) (vals_one _) ?_; intro w10 h10 ht10))
        go_upto_region 11 with fail
        rw [List.take_zero, List.nil_append, Nat.zero_add, List.drop_eq_nil_of_le (by rw [vals_length, vals_length, HY.out, fillP_length]; exact Nat.le_refl _), List.append_nil] at h10
        have hD : Below wr.heap.size wr w10 := ht10.below (below_alloc wr _) (Nat.le_refl _)
        have hE := fun Y (h : Below w10.heap.size w10 Y) => hD.trans (h.mono hD.size)
        clear ht10
        refine wp_region_noPanic ?_
        refine wp_region_held_drew (S := Below w10.heap.size w10) (by kernel_rfl) (Below.refl _ _).drew (fun hHeld => ?_)
        refine wpAnyH_take (i := 0) (v := ?_) rfl (by kernel_rfl) (by kernel_rfl) (by kernel_rfl) (fun _ _ _ h => h) (Or.inl ⟨by rfl, ?_⟩) hHeld ?_
        rotate_left
        · intro w' hSw; try dsimp only at hSw
          go_simp; try (with_reducible rfl)
        try simp only [Act.put, List.getElem_toArray, List.getElem_cons_succ, List.getElem_cons_zero, List.setIfInBounds_toArray, List.set_cons_zero, List.set_cons_succ]
        refine wpAnyH_take (i := 1) (v := ?_) rfl (by kernel_rfl) (by kernel_rfl) (by kernel_rfl) (fun _ _ _ h => h) (Or.inl ⟨by rfl, ?_⟩) hHeld ?_
        rotate_left
        · intro w' hSw; try dsimp only at hSw
          go_simp; try (with_reducible rfl)
        try simp only [Act.put, List.getElem_toArray, List.getElem_cons_succ, List.getElem_cons_zero, List.setIfInBounds_toArray, List.set_cons_zero, List.set_cons_succ]
        refine wpAnyH_take (i := 2) (v := ?_) rfl (by kernel_rfl) (by kernel_rfl) (by kernel_rfl) (fun _ _ _ h => h) (Or.inl ⟨by rfl, ?_⟩) hHeld ?_
        rotate_left
        · intro w' hSw; try dsimp only at hSw
          go_simp; try (with_reducible rfl)
        try simp only [Act.put, List.getElem_toArray, List.getElem_cons_succ, List.getElem_cons_zero, List.setIfInBounds_toArray, List.set_cons_zero, List.set_cons_succ]
        refine wpAnyH_take (i := 3) (v := ?_) rfl (by kernel_rfl) (by kernel_rfl) (by kernel_rfl) (fun _ _ _ h => h) (Or.inl ⟨by rfl, ?_⟩) hHeld ?_
        rotate_left
        · intro w' hSw; try dsimp only at hSw
          have f0 := ((hE _ hSw).cell (p := ⟨gn, j, none⟩) hlts.1).trans en
          go_simp; try (with_reducible rfl)
        try simp only [Act.put, List.getElem_toArray, List.getElem_cons_succ, List.getElem_cons_zero, List.setIfInBounds_toArray, List.set_cons_zero, List.set_cons_succ]
        refine wpAnyH_take (i := 4) (v := ?_) rfl (by kernel_rfl) (by kernel_rfl) (by kernel_rfl) (fun _ _ _ h => h) (Or.inl ⟨by rfl, ?_⟩) hHeld ?_
        rotate_left
        · intro w' hSw; try dsimp only at hSw
          go_simp; try (with_reducible rfl)
        try simp only [Act.put, List.getElem_toArray, List.getElem_cons_succ, List.getElem_cons_zero, List.setIfInBounds_toArray, List.set_cons_zero, List.set_cons_succ]
        refine wpAnyH_take (i := 5) (v := ?_) rfl (by kernel_rfl) (by kernel_rfl) (by kernel_rfl) (fun _ _ _ h => h) (Or.inl ⟨by rfl, ?_⟩) hHeld ?_
        rotate_left
        · intro w' hSw; try dsimp only at hSw
          go_simp; try (with_reducible rfl)
        try simp only [Act.put, List.getElem_toArray, List.getElem_cons_succ, List.getElem_cons_zero, List.setIfInBounds_toArray, List.set_cons_zero, List.set_cons_succ]
        refine wpAnyH_take (i := 6) (v := ?_) rfl (by kernel_rfl) (by kernel_rfl) (by kernel_rfl) (fun _ _ _ h => h) (Or.inl ⟨by rfl, ?_⟩) hHeld ?_
        rotate_left
        · intro w' hSw; try dsimp only at hSw
          go_simp; try (with_reducible rfl)
        try simp only [Act.put, List.getElem_toArray, List.getElem_cons_succ, List.getElem_cons_zero, List.setIfInBounds_toArray, List.set_cons_zero, List.set_cons_succ]
        refine wpAnyH_take (i := 7) (v := .agg (vals y).toArray) rfl (by kernel_rfl) (by kernel_rfl) (by kernel_rfl) (fun _ _ _ h => h) (yieldsIf_load_mid (by rfl) _ _ rfl (wr.heap.size) (0) rfl (vals y) _ (fun w hSw => (h10.kept hSw).range 0 288 _ (by rw [List.drop_zero, List.take_of_length_le (by rw [vals_length, HY.out]; exact Nat.le_refl _)])) Try.underlying46 rfl (sizeP HY.out)) hHeld ?_
        try simp only [Act.put, List.getElem_toArray, List.getElem_cons_succ, List.getElem_cons_zero, List.setIfInBounds_toArray, List.set_cons_zero, List.set_cons_succ]
        refine wpAnyH_take (i := 8) (v := ?_) rfl (by kernel_rfl) (by kernel_rfl) (by kernel_rfl) (fun _ _ _ h => h) (Or.inl ⟨by rfl, ?_⟩) hHeld ?_
        rotate_left
        · intro w' hSw; try dsimp only at hSw
          go_simp; try (with_reducible rfl)
        try simp only [Act.put, List.getElem_toArray, List.getElem_cons_succ, List.getElem_cons_zero, List.setIfInBounds_toArray, List.set_cons_zero, List.set_cons_succ]
        refine wpAnyH_take (i := 9) (v := ?_) rfl (by kernel_rfl) (by kernel_rfl) (by kernel_rfl) (fun _ _ _ h => h) (Or.inl ⟨by rfl, ?_⟩) hHeld ?_
        rotate_left
        · intro w' hSw; try dsimp only at hSw
          go_simp; try (with_reducible rfl)
        try simp only [Act.put, List.getElem_toArray, List.getElem_cons_succ, List.getElem_cons_zero, List.setIfInBounds_toArray, List.set_cons_zero, List.set_cons_succ]
        refine wpAnyH_take (i := 10) (v := ?_) rfl (by kernel_rfl) (by kernel_rfl) (by kernel_rfl) (fun _ _ _ h => h) (Or.inl ⟨by rfl, ?_⟩) hHeld ?_
        rotate_left
        · intro w' hSw; try dsimp only at hSw
          go_simp; try (with_reducible rfl)
        try simp only [Act.put, List.getElem_toArray, List.getElem_cons_succ, List.getElem_cons_zero, List.setIfInBounds_toArray, List.set_cons_zero, List.set_cons_succ]
        refine wpAnyH_take (i := 11) (v := ?_) rfl (by kernel_rfl) (by kernel_rfl) (by kernel_rfl) (fun _ _ _ h => h) (Or.inl ⟨by rfl, ?_⟩) hHeld ?_
        rotate_left
        · intro w' hSw; try dsimp only at hSw
          have f0 := (hch.kept (hE _ hSw)).cell' (i := 2) rfl
          go_simp; try (with_reducible rfl)
        try simp only [Act.put, List.getElem_toArray, List.getElem_cons_succ, List.getElem_cons_zero, List.setIfInBounds_toArray, List.set_cons_zero, List.set_cons_succ]
        refine wpAnyH_take (i := 12) (v := ?_) rfl (by kernel_rfl) (by kernel_rfl) (by kernel_rfl) (fun _ _ _ h => h) (Or.inl ⟨by rfl, ?_⟩) hHeld ?_
        rotate_left
        · intro w' hSw; try dsimp only at hSw
          go_simp; try (with_reducible rfl)
        try simp only [Act.put, List.getElem_toArray, List.getElem_cons_succ, List.getElem_cons_zero, List.setIfInBounds_toArray, List.set_cons_zero, List.set_cons_succ]
        refine wpAnyH_take (i := 13) (v := ?_) rfl (by kernel_rfl) (by kernel_rfl) (by kernel_rfl) (fun _ _ _ h => h) (Or.inl ⟨by rfl, ?_⟩) hHeld ?_
        rotate_left
        · intro w' hSw; try dsimp only at hSw
          go_simp; try (with_reducible rfl)
        try simp only [Act.put, List.getElem_toArray, List.getElem_cons_succ, List.getElem_cons_zero, List.setIfInBounds_toArray, List.set_cons_zero, List.set_cons_succ]
        refine wpAnyH_take (i := 14) (v := ?_) rfl (by kernel_rfl) (by kernel_rfl) (by kernel_rfl) (fun _ _ _ h => h) (Or.inl ⟨by rfl, ?_⟩) hHeld ?_
        rotate_left
        · intro w' hSw; try dsimp only at hSw
          go_simp; try (with_reducible rfl)
        try simp only [Act.put, List.getElem_toArray, List.getElem_cons_succ, List.getElem_cons_zero, List.setIfInBounds_toArray, List.set_cons_zero, List.set_cons_succ]
        refine wpAnyH_take (i := 15) (v := ?_) rfl (by kernel_rfl) (by kernel_rfl) (by kernel_rfl) (fun _ _ _ h => h) (Or.inl ⟨by rfl, ?_⟩) hHeld ?_
        rotate_left
        · intro w' hSw; try dsimp only at hSw
          have f0 := ((hE _ hSw).cell (p := ⟨gr, i * 4, none⟩) hlts.2.1).trans er
          go_simp; try (with_reducible rfl)
        try simp only [Act.put, List.getElem_toArray, List.getElem_cons_succ, List.getElem_cons_zero, List.setIfInBounds_toArray, List.set_cons_zero, List.set_cons_succ]
        refine wpAnyH_take (i := 16) (v := ?_) rfl (by kernel_rfl) (by kernel_rfl) (by kernel_rfl) (fun _ _ _ h => h) (Or.inl ⟨by rfl, ?_⟩) hHeld ?_
        rotate_left
        · intro w' hSw; try dsimp only at hSw
          go_simp; try (with_reducible rfl)
        try simp only [Act.put, List.getElem_toArray, List.getElem_cons_succ, List.getElem_cons_zero, List.setIfInBounds_toArray, List.set_cons_zero, List.set_cons_succ]
        refine wpAnyH_take (i := 17) (v := ?_) rfl (by kernel_rfl) (by kernel_rfl) (by kernel_rfl) (fun _ _ _ h => h) (Or.inl ⟨by rfl, ?_⟩) hHeld ?_
        rotate_left
        · intro w' hSw; try dsimp only at hSw
          go_simp; try (with_reducible rfl)
        try simp only [Act.put, List.getElem_toArray, List.getElem_cons_succ, List.getElem_cons_zero, List.setIfInBounds_toArray, List.set_cons_zero, List.set_cons_succ]
        refine wpAnyH_take (i := 18) (v := .agg (vals y).toArray) rfl (by kernel_rfl) (by kernel_rfl) (by kernel_rfl) (fun _ _ _ h => h) (yieldsIf_load_mid (by rfl) _ _ rfl (g2) (j * 288) rfl (vals y) _ (fun w hSw => hRb _ (hE _ hSw)) Try.underlying46 rfl (sizeP HY.out)) hHeld ?_
        try simp only [Act.put, List.getElem_toArray, List.getElem_cons_succ, List.getElem_cons_zero, List.setIfInBounds_toArray, List.set_cons_zero, List.set_cons_succ]
        refine wpAnyH_take (i := 19) (v := ?_) rfl (by kernel_rfl) (by kernel_rfl) (by kernel_rfl) (fun _ _ _ h => h) (Or.inl ⟨by rfl, ?_⟩) hHeld ?_
        rotate_left
        · intro w' hSw; try dsimp only at hSw
          go_simp; try (with_reducible rfl)
        try simp only [Act.put, List.getElem_toArray, List.getElem_cons_succ, List.getElem_cons_zero, List.setIfInBounds_toArray, List.set_cons_zero, List.set_cons_succ]
        refine wpAnyH_take (i := 20) (v := ?_) rfl (by kernel_rfl) (by kernel_rfl) (by kernel_rfl) (fun _ _ _ h => h) (Or.inl ⟨by rfl, ?_⟩) hHeld ?_
        rotate_left
        · intro w' hSw; try dsimp only at hSw
          go_simp; try (with_reducible rfl)
        try simp only [Act.put, List.getElem_toArray, List.getElem_cons_succ, List.getElem_cons_zero, List.setIfInBounds_toArray, List.set_cons_zero, List.set_cons_succ]
        refine wpAnyH_done (by kernel_rfl) ?_ _
        refine NoPanic.normal ?_
        go_wp2
        go_roundw
        case rel => exact ⟨j + 1, by omega, by go_num, owns_belowR hrn (hE _ hHeld), hpl.below (hE _ hHeld), hRw.below (hE _ hHeld), bt hBw (hE _ hHeld)⟩
        case measure => simp [intOf]; omega
      · obtain rfl : np = j := by omega
        have hkn : ¬ (np : Int) < (np : Int) := by omega
        obtain ⟨v, ve, hch, hrow⟩ := hRw.chip
        have c1 := hch.cell' (i := 1) rfl
        go_wp2
        go_ret
        exact ⟨rfl, hBw⟩
  · have hee := HEE.out
    have hN := HN.out
    rw [if_neg hin] at hee hN
    subst hee
    subst hN
    clear HEE HN
    go_wp2_with fail
    go_ret
    exact ⟨rfl, hB7⟩
end Go.Proofs.Ythafcnilhloldaa
