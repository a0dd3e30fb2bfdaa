/-
  What Order's comparison answers, and what turns by it: nothing.
-/
import Derived.Test.YtmagcohdhljaeaaPgOrdP
import Derived.Sort.Grow
import Derived.Lib.Small
namespace Go.Proofs.Ytmagcohdhljaeaa
open Go.RowKit
/-- New blocks and draws alone. -/
def Grows (w w' : World) : Prop := ∃ q os, w' = Sort.grow (w.drewN q) os
theorem Grows.refl (w : World) : Grows w w := ⟨0, #[], by rw [Sort.grow_empty]; rfl⟩
theorem Grows.trans {a b c : World} (h : Grows a b) (k : Grows b c) : Grows a c := by
  obtain ⟨q, os, rfl⟩ := h
  obtain ⟨q', os', rfl⟩ := k
  refine ⟨q + q', os ++ os', ?_⟩
  simp [Sort.grow, World.drewN, Array.append_assoc, Nat.add_assoc]
theorem Grows.alloc {a b : World} (h : Grows a b) (o : Obj) : Grows a (b.alloc o) := by
  obtain ⟨q, os, rfl⟩ := h
  exact ⟨q, os ++ #[o], by rw [Sort.alloc_eq_grow, Sort.grow_grow]⟩
theorem Grows.drew {a b : World} (h : Grows a b) : Grows a b.drew := by
  obtain ⟨q, os, rfl⟩ := h
  exact ⟨q + 1, os, by simp [Sort.grow, World.drewN, World.drew, Nat.add_assoc]⟩
theorem Grows.below {a b : World} (h : Grows a b) : Below a.heap.size a b := by
  obtain ⟨q, os, rfl⟩ := h
  refine ⟨rfl, rfl, rfl, by simp [Sort.grow, World.drewN], fun k hk => ?_⟩
  show (a.heap ++ os)[k]? = a.heap[k]?
  rw [Array.getElem?_append_left hk]
/-- A slice of headers that lies in a world. -/
structure HdrsIn (w : World) (p : Option Addr) (n c : Nat) (H : List HdS) : Prop where
  len : H.length = n
  cap : n ≤ c
  max : c ≤ maxLen
  nil : p = none → c = 0
  at' : 0 < n → ∃ b o, p = some ⟨b, o, none⟩ ∧ b < w.heap.size ∧ ∀ i, i < n → w.cell? ⟨b, o + i * 4, none⟩ = some (.int .i64 (hAt H i).k) ∧ w.cell? ⟨b, o + i * 4 + 1, none⟩ = some (.int .i64 (hAt H i).g) ∧ w.cell? ⟨b, o + i * 4 + 2, none⟩ = some (.int .i64 (hAt H i).s) ∧ w.cell? ⟨b, o + i * 4 + 3, none⟩ = some (.int .i64 (hAt H i).t)
theorem HdrsIn.below {w w' : World} {p : Option Addr} {n c : Nat} {H : List HdS} (h : HdrsIn w p n c H) (hb : Below w.heap.size w w') : HdrsIn w' p n c H :=
  ⟨h.len, h.cap, h.max, h.nil, fun h0 => by
    obtain ⟨b, o, hp, hl, hc⟩ := h.at' h0
    have he : ∀ j, w'.cell? ⟨b, j, none⟩ = w.cell? ⟨b, j, none⟩ := fun j => hb.cell (p := ⟨b, j, none⟩) hl
    exact ⟨b, o, hp, Nat.lt_of_lt_of_le hl hb.size, fun i hi => by
      obtain ⟨h0, h1, h2, h3⟩ := hc i hi
      exact ⟨(he _).trans h0, (he _).trans h1, (he _).trans h2, (he _).trans h3⟩⟩⟩
theorem newer_g (k g s t k' g' s' t' : Int) (w : World) :
    Calls Try.prog 27 #[.agg #[.int .i64 k, .int .i64 g, .int .i64 s, .int .i64 t], .agg #[.int .i64 k', .int .i64 g', .int .i64 s', .int .i64 t']] w fun e w' => e = .returned (.bool (newB s t s' t')) ∧ Grows w w' := by
  by_cases h : s = s'
  · subst h
    have e : newB s t s t' = decide (t < t') := by simp [newB]
    rw [e]
    clear e
    go_enter Try.func27, Try.ntmps27
    go_wp2
    go_ret
    exact ⟨rfl, ((Grows.refl w).alloc _).alloc _⟩
  · have e : newB s t s' t' = decide (s' < s) := by simp [newB, h]
    rw [e]
    clear e
    have hb : (s == s') = false := beq_eq_false_iff_ne.2 h
    clear h
    go_enter Try.func27, Try.ntmps27
    go_wp2
    go_ret
    exact ⟨rfl, ((Grows.refl w).alloc _).alloc _⟩
/-- The comparison of two places. -/
def cfN (H : List HdS) (x y : Nat) : Int := if nw H x y then -1 else if nw H y x then 1 else Lib.compareInt x y
theorem compare_g (x y : Int) (w : World) : Calls Try.prog 47 #[.int .i64 x, .int .i64 y] w fun e w' => e = .returned (.int .i64 (Lib.compareInt x y)) ∧ Grows w w' := by
  unfold Lib.compareInt
  by_cases h1 : x < y
  · rw [if_pos h1]
    go_enter Try.func47, Try.ntmps47
    go_wp2
    go_ret
    exact ⟨rfl, Grows.refl w⟩
  · by_cases h2 : x > y
    · rw [if_neg h1, if_pos h2]
      go_enter Try.func47, Try.ntmps47
      go_wp2
      go_ret
      exact ⟨rfl, Grows.refl w⟩
    · rw [if_neg h1, if_neg h2]
      go_enter Try.func47, Try.ntmps47
      go_wp2
      go_ret
      exact ⟨rfl, Grows.refl w⟩
set_option linter.unusedSimpArgs false in
set_option maxRecDepth 100000 in
set_option maxHeartbeats 4000000 in
theorem ord1_any (Bl b o n c x y : Nat) (H : List HdS) (W : World) (hx : x < n) (hy : y < n) (hlt : Bl < W.heap.size) (hB : W.cell? ⟨Bl, 0, none⟩ = some (.slice (some ⟨b, o, none⟩) n c)) (hn : n ≤ 140737488355328) (hH : HdrsIn W (some ⟨b, o, none⟩) n c H) :
    Calls Try.prog 46 #[.int .i64 (x : Int), .int .i64 (y : Int), .pointer (some ⟨Bl, 0, none⟩)] W fun e w' => e = .returned (.int .i64 (cfN H x y)) ∧ Grows W w' := by
  obtain ⟨b', o', hp, hlb, hc⟩ := hH.at' (by omega)
  cases hp
  have hBx : ∀ w', Grows W w' → w'.cell? ⟨Bl, 0, none⟩ = some (.slice (some ⟨b, o, none⟩) n c) := fun w' h => (h.below.cell (p := ⟨Bl, 0, none⟩) hlt).trans hB
  have hcell : ∀ i, i < n → ∀ w', Grows W w' → w'.cell? ⟨b, o + i * 4, none⟩ = some (.int .i64 (hAt H i).k) ∧ w'.cell? ⟨b, o + i * 4 + 1, none⟩ = some (.int .i64 (hAt H i).g) ∧ w'.cell? ⟨b, o + i * 4 + 2, none⟩ = some (.int .i64 (hAt H i).s) ∧ w'.cell? ⟨b, o + i * 4 + 3, none⟩ = some (.int .i64 (hAt H i).t) := fun i hi w' h => by
    obtain ⟨h0, h1, h2, h3⟩ := hc i hi
    have he : ∀ j, w'.cell? ⟨b, j, none⟩ = W.cell? ⟨b, j, none⟩ := fun j => h.below.cell (p := ⟨b, j, none⟩) hlb
    exact ⟨(he _).trans h0, (he _).trans h1, (he _).trans h2, (he _).trans h3⟩
  have hX := hcell x hx
  have hY := hcell y hy
  clear hcell hc hH hB
  have hn1 := fun w => newer_g (hAt H x).k (hAt H x).g (hAt H x).s (hAt H x).t (hAt H y).k (hAt H y).g (hAt H y).s (hAt H y).t w
  have hn2 := fun w => newer_g (hAt H y).k (hAt H y).g (hAt H y).s (hAt H y).t (hAt H x).k (hAt H x).g (hAt H x).s (hAt H x).t w
  have hc3 := fun w => compare_g (x : Int) (y : Int) w
  rw [show newB (hAt H x).s (hAt H x).t (hAt H y).s (hAt H y).t = nw H x y from rfl] at hn1
  rw [show newB (hAt H y).s (hAt H y).t (hAt H x).s (hAt H x).t = nw H y x from rfl] at hn2
  have hG1 := Grows.refl W
  unfold cfN
  generalize Lib.compareInt (x : Int) (y : Int) = r at *
  generalize (hAt H x).k = xk at *
  generalize (hAt H x).g = xg at *
  generalize (hAt H x).s = xs at *
  generalize (hAt H x).t = xt at *
  generalize (hAt H y).k = yk at *
  generalize (hAt H y).g = yg at *
  generalize (hAt H y).s = ys at *
  generalize (hAt H y).t = yt at *
  generalize nw H x y = n1 at *
  generalize nw H y x = n2 at *
  go_enter Try.func46, Try.ntmps46
  go_wp2_with fail
  refine wp_region_noPanic ?_
  refine wp_region_held_drew (S := fun w' => Grows W w') (by kernel_rfl) hG1.drew (fun hHeld => ?_)
  refine wpAnyH_take (i := 0) (v := ?_) rfl (by kernel_rfl) (by kernel_rfl) (by kernel_rfl) (fun _ _ _ h => h) (Or.inl ⟨by rfl, ?_⟩) hHeld ?_
  rotate_left
  · intro w' hSw; try dsimp only at hSw
    have zb := hBx w' hSw
    go_simp; try (with_reducible rfl)
  try simp only [Act.put, List.getElem_toArray, List.getElem_cons_succ, List.getElem_cons_zero, List.setIfInBounds_toArray, List.set_cons_zero, List.set_cons_succ]
  refine wpAnyH_take (i := 1) (v := ?_) rfl (by kernel_rfl) (by kernel_rfl) (by kernel_rfl) (fun _ _ _ h => h) (Or.inl ⟨by rfl, ?_⟩) hHeld ?_
  rotate_left
  · intro w' hSw; try dsimp only at hSw
    go_simp; try (with_reducible rfl)
  try simp only [Act.put, List.getElem_toArray, List.getElem_cons_succ, List.getElem_cons_zero, List.setIfInBounds_toArray, List.set_cons_zero, List.set_cons_succ]
  refine wpAnyH_take (i := 2) (v := ?_) rfl (by kernel_rfl) (by kernel_rfl) (by kernel_rfl) (fun _ _ _ h => h) (Or.inl ⟨by rfl, ?_⟩) hHeld ?_
  rotate_left
  · intro w' hSw; try dsimp only at hSw
    go_simp; try (with_reducible rfl)
  try simp only [Act.put, List.getElem_toArray, List.getElem_cons_succ, List.getElem_cons_zero, List.setIfInBounds_toArray, List.set_cons_zero, List.set_cons_succ]
  refine wpAnyH_take (i := 3) (v := ?_) rfl (by kernel_rfl) (by kernel_rfl) (by kernel_rfl) (fun _ _ _ h => h) (Or.inl ⟨by rfl, ?_⟩) hHeld ?_
  rotate_left
  · intro w' hSw; try dsimp only at hSw
    obtain ⟨z0, z1, z2, z3⟩ := hX w' hSw
    go_simp; try (with_reducible rfl)
  try simp only [Act.put, List.getElem_toArray, List.getElem_cons_succ, List.getElem_cons_zero, List.setIfInBounds_toArray, List.set_cons_zero, List.set_cons_succ]
  refine wpAnyH_take (i := 4) (v := ?_) rfl (by kernel_rfl) (by kernel_rfl) (by kernel_rfl) (fun _ _ _ h => h) (Or.inl ⟨by rfl, ?_⟩) hHeld ?_
  rotate_left
  · intro w' hSw; try dsimp only at hSw
    have zb := hBx w' hSw
    go_simp; try (with_reducible rfl)
  try simp only [Act.put, List.getElem_toArray, List.getElem_cons_succ, List.getElem_cons_zero, List.setIfInBounds_toArray, List.set_cons_zero, List.set_cons_succ]
  refine wpAnyH_take (i := 5) (v := ?_) rfl (by kernel_rfl) (by kernel_rfl) (by kernel_rfl) (fun _ _ _ h => h) (Or.inl ⟨by rfl, ?_⟩) hHeld ?_
  rotate_left
  · intro w' hSw; try dsimp only at hSw
    go_simp; try (with_reducible rfl)
  try simp only [Act.put, List.getElem_toArray, List.getElem_cons_succ, List.getElem_cons_zero, List.setIfInBounds_toArray, List.set_cons_zero, List.set_cons_succ]
  refine wpAnyH_take (i := 6) (v := ?_) rfl (by kernel_rfl) (by kernel_rfl) (by kernel_rfl) (fun _ _ _ h => h) (Or.inl ⟨by rfl, ?_⟩) hHeld ?_
  rotate_left
  · intro w' hSw; try dsimp only at hSw
    go_simp; try (with_reducible rfl)
  try simp only [Act.put, List.getElem_toArray, List.getElem_cons_succ, List.getElem_cons_zero, List.setIfInBounds_toArray, List.set_cons_zero, List.set_cons_succ]
  refine wpAnyH_take (i := 7) (v := ?_) rfl (by kernel_rfl) (by kernel_rfl) (by kernel_rfl) (fun _ _ _ h => h) (Or.inl ⟨by rfl, ?_⟩) hHeld ?_
  rotate_left
  · intro w' hSw; try dsimp only at hSw
    obtain ⟨z0, z1, z2, z3⟩ := hY w' hSw
    go_simp; try (with_reducible rfl)
  try simp only [Act.put, List.getElem_toArray, List.getElem_cons_succ, List.getElem_cons_zero, List.setIfInBounds_toArray, List.set_cons_zero, List.set_cons_succ]
  refine wpAnyH_ready (rs := [8]) (by kernel_rfl) (by simp) ?_
  refine AllReadyH.cons rfl (fun K hK => ?_) AllReadyH.nil
  go_simp
  refine (hn1 _).mono ?_
  rintro e Z1 ⟨rfl, hz1⟩
  try go_wp2_with fail
  refine hK.out _ _ (hHeld.trans hz1) (fun hHeld => ?_)
  clear hK K
  try simp only [Act.put, List.getElem_toArray, List.getElem_cons_succ, List.getElem_cons_zero, List.setIfInBounds_toArray, List.set_cons_zero, List.set_cons_succ]
  refine wpAnyH_take (i := 9) (v := ?_) rfl (by kernel_rfl) (by kernel_rfl) (by kernel_rfl) (fun _ _ _ h => h) (Or.inl ⟨by rfl, ?_⟩) hHeld ?_
  rotate_left
  · intro w' hSw; try dsimp only at hSw
    go_simp; try (with_reducible rfl)
  try simp only [Act.put, List.getElem_toArray, List.getElem_cons_succ, List.getElem_cons_zero, List.setIfInBounds_toArray, List.set_cons_zero, List.set_cons_succ]
  refine wpAnyH_done (by kernel_rfl) ?_ _
  refine NoPanic.normal ?_
  have hG2 := hHeld
  cases n1 with
  | true =>
    go_wp2_with fail
    go_ret
    exact ⟨rfl, hG2⟩
  | false =>
    go_wp2_with fail
    refine wp_region_noPanic ?_
    refine wp_region_held_drew (S := fun w' => Grows W w') (by kernel_rfl) hG2.drew (fun hHeld => ?_)
    refine wpAnyH_take (i := 0) (v := ?_) rfl (by kernel_rfl) (by kernel_rfl) (by kernel_rfl) (fun _ _ _ h => h) (Or.inl ⟨by rfl, ?_⟩) hHeld ?_
    rotate_left
    · intro w' hSw; try dsimp only at hSw
      have zb := hBx w' hSw
      go_simp; try (with_reducible rfl)
    try simp only [Act.put, List.getElem_toArray, List.getElem_cons_succ, List.getElem_cons_zero, List.setIfInBounds_toArray, List.set_cons_zero, List.set_cons_succ]
    refine wpAnyH_take (i := 1) (v := ?_) rfl (by kernel_rfl) (by kernel_rfl) (by kernel_rfl) (fun _ _ _ h => h) (Or.inl ⟨by rfl, ?_⟩) hHeld ?_
    rotate_left
    · intro w' hSw; try dsimp only at hSw
      go_simp; try (with_reducible rfl)
    try simp only [Act.put, List.getElem_toArray, List.getElem_cons_succ, List.getElem_cons_zero, List.setIfInBounds_toArray, List.set_cons_zero, List.set_cons_succ]
    refine wpAnyH_take (i := 2) (v := ?_) rfl (by kernel_rfl) (by kernel_rfl) (by kernel_rfl) (fun _ _ _ h => h) (Or.inl ⟨by rfl, ?_⟩) hHeld ?_
    rotate_left
    · intro w' hSw; try dsimp only at hSw
      go_simp; try (with_reducible rfl)
    try simp only [Act.put, List.getElem_toArray, List.getElem_cons_succ, List.getElem_cons_zero, List.setIfInBounds_toArray, List.set_cons_zero, List.set_cons_succ]
    refine wpAnyH_take (i := 3) (v := ?_) rfl (by kernel_rfl) (by kernel_rfl) (by kernel_rfl) (fun _ _ _ h => h) (Or.inl ⟨by rfl, ?_⟩) hHeld ?_
    rotate_left
    · intro w' hSw; try dsimp only at hSw
      obtain ⟨z0, z1, z2, z3⟩ := hY w' hSw
      go_simp; try (with_reducible rfl)
    try simp only [Act.put, List.getElem_toArray, List.getElem_cons_succ, List.getElem_cons_zero, List.setIfInBounds_toArray, List.set_cons_zero, List.set_cons_succ]
    refine wpAnyH_take (i := 4) (v := ?_) rfl (by kernel_rfl) (by kernel_rfl) (by kernel_rfl) (fun _ _ _ h => h) (Or.inl ⟨by rfl, ?_⟩) hHeld ?_
    rotate_left
    · intro w' hSw; try dsimp only at hSw
      have zb := hBx w' hSw
      go_simp; try (with_reducible rfl)
    try simp only [Act.put, List.getElem_toArray, List.getElem_cons_succ, List.getElem_cons_zero, List.setIfInBounds_toArray, List.set_cons_zero, List.set_cons_succ]
    refine wpAnyH_take (i := 5) (v := ?_) rfl (by kernel_rfl) (by kernel_rfl) (by kernel_rfl) (fun _ _ _ h => h) (Or.inl ⟨by rfl, ?_⟩) hHeld ?_
    rotate_left
    · intro w' hSw; try dsimp only at hSw
      go_simp; try (with_reducible rfl)
    try simp only [Act.put, List.getElem_toArray, List.getElem_cons_succ, List.getElem_cons_zero, List.setIfInBounds_toArray, List.set_cons_zero, List.set_cons_succ]
    refine wpAnyH_take (i := 6) (v := ?_) rfl (by kernel_rfl) (by kernel_rfl) (by kernel_rfl) (fun _ _ _ h => h) (Or.inl ⟨by rfl, ?_⟩) hHeld ?_
    rotate_left
    · intro w' hSw; try dsimp only at hSw
      go_simp; try (with_reducible rfl)
    try simp only [Act.put, List.getElem_toArray, List.getElem_cons_succ, List.getElem_cons_zero, List.setIfInBounds_toArray, List.set_cons_zero, List.set_cons_succ]
    refine wpAnyH_take (i := 7) (v := ?_) rfl (by kernel_rfl) (by kernel_rfl) (by kernel_rfl) (fun _ _ _ h => h) (Or.inl ⟨by rfl, ?_⟩) hHeld ?_
    rotate_left
    · intro w' hSw; try dsimp only at hSw
      obtain ⟨z0, z1, z2, z3⟩ := hX w' hSw
      go_simp; try (with_reducible rfl)
    try simp only [Act.put, List.getElem_toArray, List.getElem_cons_succ, List.getElem_cons_zero, List.setIfInBounds_toArray, List.set_cons_zero, List.set_cons_succ]
    refine wpAnyH_ready (rs := [8]) (by kernel_rfl) (by simp) ?_
    refine AllReadyH.cons rfl (fun K hK => ?_) AllReadyH.nil
    go_simp
    refine (hn2 _).mono ?_
    rintro e Z2 ⟨rfl, hz2⟩
    try go_wp2_with fail
    refine hK.out _ _ (hHeld.trans hz2) (fun hHeld => ?_)
    clear hK K
    try simp only [Act.put, List.getElem_toArray, List.getElem_cons_succ, List.getElem_cons_zero, List.setIfInBounds_toArray, List.set_cons_zero, List.set_cons_succ]
    refine wpAnyH_take (i := 9) (v := ?_) rfl (by kernel_rfl) (by kernel_rfl) (by kernel_rfl) (fun _ _ _ h => h) (Or.inl ⟨by rfl, ?_⟩) hHeld ?_
    rotate_left
    · intro w' hSw; try dsimp only at hSw
      go_simp; try (with_reducible rfl)
    try simp only [Act.put, List.getElem_toArray, List.getElem_cons_succ, List.getElem_cons_zero, List.setIfInBounds_toArray, List.set_cons_zero, List.set_cons_succ]
    refine wpAnyH_done (by kernel_rfl) ?_ _
    refine NoPanic.normal ?_
    have hG3 := hHeld
    cases n2 with
    | true =>
      go_wp2_with fail
      go_ret
      exact ⟨rfl, hG3⟩
    | false =>
      go_wp2_with (go_at_call 47; refine (hc3 _).mono ?_; rintro e Z3 ⟨rfl, hz3⟩)
      go_ret
      exact ⟨rfl, hG3.trans hz3⟩
end Go.Proofs.Ytmagcohdhljaeaa
