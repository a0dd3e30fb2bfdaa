/-
  slices.IndexFunc of records; what dirent.placeOf answers, and the closures of placeOf and Add.
-/
import Derived.Test.YtikigfjdddgkpaaDtNm
import Derived.Test.YtikigfjdddgkpaaDtSl
namespace Go.Proofs.Ytikigfjdddgkpaa
open Go.RowKit
theorem idxOf_hit {α : Type} (F : α → Bool) : ∀ (l : List α) (m k : Nat) (x : α), (∀ j y, j < k → l[j]? = some y → F y = false) → l[k]? = some x → F x = true → idxOf F l m = ((m + k : Nat) : Int)
  | [], m, k, x, _, hx, _ => by simp at hx
  | y :: l, m, 0, x, _, hx, hF => by
    simp at hx
    subst hx
    rw [idxOf, if_pos hF, Nat.add_zero]
  | y :: l, m, k + 1, x, h, hx, hF => by
    have hy : F y = false := h 0 y (by omega) rfl
    rw [idxOf, if_neg (by rw [hy]; exact Bool.false_ne_true), idxOf_hit F l (m + 1) k x (fun j z hj hz => h (j + 1) z (by omega) (by simpa using hz)) (by simpa using hx) hF]
    congr 1
    omega
theorem idxOf_none {α : Type} (F : α → Bool) : ∀ (l : List α) (m : Nat), (∀ x ∈ l, F x = false) → idxOf F l m = -1
  | [], m, _ => rfl
  | y :: l, m, h => by
    rw [idxOf, if_neg (by rw [h y (by simp)]; exact Bool.false_ne_true), idxOf_none F l (m + 1) (fun x hx => h x (by simp [hx]))]
theorem idxOf_ge {α : Type} (F : α → Bool) : ∀ (l : List α) (m : Nat), -1 ≤ idxOf F l m ∧ idxOf F l m < ((m + l.length : Nat) : Int)
  | [], m => ⟨by show (-1 : Int) ≤ -1; omega, by show (-1 : Int) < _; omega⟩
  | y :: l, m => by
    have ih := idxOf_ge F l (m + 1)
    rw [idxOf, List.length_cons]
    split
    · exact ⟨by omega, by omega⟩
    · exact ⟨ih.1, by omega⟩
theorem eR_get {l : List Rc} {k : Nat} (h : k < l.length) : l[k]? = some (eR l k) := by simp [eR, h]
set_option linter.unusedSimpArgs false in
set_option linter.unusedVariables false in
set_option maxRecDepth 100000 in
set_option maxHeartbeats 8000000 in
theorem isNm_any (r : Rc) (l : List UInt8) (g : Nat) (t : TypeId) (w : World) (hg : Blk w g t [.string ⟨l.toArray⟩]) :
    Calls Try.prog 60 #[r.val, .pointer (some ⟨g, 0, none⟩)] w fun e w' => e = .returned (.bool (isNm l r)) ∧ Below w.heap.size w w' := by
  have hb := below_alloc w (.cells #[.int .i64 r.pl, .int .i64 r.ln, .string ⟨r.nm.toArray⟩, .int .i64 r.ino, .int .i64 r.kd] 69)
  have b0 := Blk.new' w 69 #[.int .i64 r.pl, .int .i64 r.ln, .string ⟨r.nm.toArray⟩, .int .i64 r.ino, .int .i64 r.kd]
  have g0 := hg.alloc (.cells #[.int .i64 r.pl, .int .i64 r.ln, .string ⟨r.nm.toArray⟩, .int .i64 r.ino, .int .i64 r.kd] 69)
  cases hh : r.has with
  | false =>
    have HE : Hid (isNm l r = false) := by show _ = _; simp [isNm, hh]
    go_enter Try.func60, Try.ntmps60
    go_wp2_with (go_at_call 45; refine (has_any r _).mono ?_; rintro e w1 ⟨rfl, hb1⟩; rw [hh]; have hB1 := bt hb hb1)
    go_ret
    exact ⟨ret_bool HE.out.symm, hB1⟩
  | true =>
    have HE : Hid (isNm l r = (r.nm == l)) := by show _ = _; simp [isNm, hh]
    go_enter Try.func60, Try.ntmps60
    go_wp2_with (go_at_call 45; refine (has_any r _).mono ?_; rintro e w1 ⟨rfl, hb1⟩; rw [hh]; have hB1 := bt hb hb1; have c2 := (b0.kept hb1).cell' (i := 2) (v := .string ⟨r.nm.toArray⟩) rfl; have c0 := (g0.kept hb1).cell' (i := 0) (v := .string ⟨l.toArray⟩) rfl)
    go_ret
    exact ⟨ret_bool HE.out.symm, hB1⟩
set_option linter.unusedSimpArgs false in
set_option linter.unusedVariables false in
set_option maxRecDepth 100000 in
set_option maxHeartbeats 8000000 in
theorem fits_any (r : Rc) (x : Ent) (g : Nat) (t : TypeId) (w : World) (hg : Blk w g t [.string ⟨x.nm.toArray⟩, .int .i64 x.ino, .int .i64 x.kd]) (hl : r.nm.length ≤ 100000) (hr1 : 0 ≤ r.ln) (hr2 : r.ln ≤ 1000000) (hx : x.nm.length ≤ 100000) :
    Calls Try.prog 48 #[r.val, .pointer (some ⟨g, 0, none⟩)] w fun e w' => e = .returned (.bool (decide (needE x.nm ≤ spareE r))) ∧ Below w.heap.size w w' := by
  have hb := below_alloc w (.cells #[.int .i64 r.pl, .int .i64 r.ln, .string ⟨r.nm.toArray⟩, .int .i64 r.ino, .int .i64 r.kd] 69)
  have b0 := Blk.new' w 69 #[.int .i64 r.pl, .int .i64 r.ln, .string ⟨r.nm.toArray⟩, .int .i64 r.ino, .int .i64 r.kd]
  have hc0 := ((hg.alloc (.cells #[.int .i64 r.pl, .int .i64 r.ln, .string ⟨r.nm.toArray⟩, .int .i64 r.ino, .int .i64 r.kd] 69)).drew).cell' (i := 0) (v := .string ⟨x.nm.toArray⟩) rfl
  have hlt0 := ((hg.alloc (.cells #[.int .i64 r.pl, .int .i64 r.ln, .string ⟨r.nm.toArray⟩, .int .i64 r.ino, .int .i64 r.kd] 69)).drew).lt
  go_enter Try.func48, Try.ntmps48
  go_wp2
  refine wp_region_noPanic ?_
  refine wp_region_held_drew (S := fun X => Blk X w.heap.size 69 [.int .i64 r.pl, .int .i64 r.ln, .string ⟨r.nm.toArray⟩, .int .i64 r.ino, .int .i64 r.kd] ∧ X.cell? ⟨g, 0, none⟩ = some (.string ⟨x.nm.toArray⟩) ∧ g < X.heap.size ∧ Below w.heap.size w X) (by kernel_rfl) ⟨b0.drew, hc0, hlt0, hb.drew⟩ (fun hHeld => ?_)
  refine wpAnyH_take (i := 0) (v := ?_) rfl (by kernel_rfl) (by kernel_rfl) (by kernel_rfl) (fun _ _ _ h => h) (Or.inl ⟨by rfl, ?_⟩) hHeld ?_
  rotate_left
  · intro w' hSw; try dsimp only at hSw
    obtain ⟨hSw, hs2, -⟩ := hSw
    have d0 := hSw.cell' (i := 0) rfl
    have d1 := hSw.cell' (i := 1) rfl
    have d2 := hSw.cell' (i := 2) rfl
    have d3 := hSw.cell' (i := 3) rfl
    have d4 := hSw.cell' (i := 4) rfl
    go_simp; try (with_reducible rfl)
  try simp only [Act.put, List.getElem_toArray, List.getElem_cons_succ, List.getElem_cons_zero, List.setIfInBounds_toArray, List.set_cons_zero, List.set_cons_succ]
  refine wpAnyH_take (i := 2) (v := ?_) rfl (by kernel_rfl) (by kernel_rfl) (by kernel_rfl) (fun _ _ _ h => h) (Or.inl ⟨by rfl, ?_⟩) hHeld ?_
  rotate_left
  · intro w' hSw; try dsimp only at hSw
    go_simp; try (with_reducible rfl)
  try simp only [Act.put, List.getElem_toArray, List.getElem_cons_succ, List.getElem_cons_zero, List.setIfInBounds_toArray, List.set_cons_zero, List.set_cons_succ]
  refine wpAnyH_take (i := 3) (v := ?_) rfl (by kernel_rfl) (by kernel_rfl) (by kernel_rfl) (fun _ _ _ h => h) (Or.inl ⟨by rfl, ?_⟩) hHeld ?_
  rotate_left
  · intro w' hSw; try dsimp only at hSw
    obtain ⟨hSw, hs2, -⟩ := hSw
    have d0 := hSw.cell' (i := 0) rfl
    have d1 := hSw.cell' (i := 1) rfl
    have d2 := hSw.cell' (i := 2) rfl
    have d3 := hSw.cell' (i := 3) rfl
    have d4 := hSw.cell' (i := 4) rfl
    go_simp; try (with_reducible rfl)
  try simp only [Act.put, List.getElem_toArray, List.getElem_cons_succ, List.getElem_cons_zero, List.setIfInBounds_toArray, List.set_cons_zero, List.set_cons_succ]
  refine wpAnyH_ready (rs := [1]) (by kernel_rfl) (by simp) ?_
  refine AllReadyH.cons rfl (fun K hK => ?_) AllReadyH.nil
  go_simp
  refine (spare_any r _ hl hr1 hr2).mono ?_
  rintro e1 w1 ⟨rfl, hb1⟩
  refine hK.out _ _ ⟨hHeld.1.kept hb1, (hb1.cell (p := ⟨g, 0, none⟩) hHeld.2.2.1).trans hHeld.2.1, Nat.lt_of_lt_of_le hHeld.2.2.1 hb1.size, hHeld.2.2.2.trans (hb1.mono hHeld.2.2.2.size)⟩ (fun hHeld => ?_)
  clear hK K
  try simp only [Act.put, List.getElem_toArray, List.getElem_cons_succ, List.getElem_cons_zero, List.setIfInBounds_toArray, List.set_cons_zero, List.set_cons_succ]
  refine wpAnyH_ready (rs := [4]) (by kernel_rfl) (by simp) ?_
  refine AllReadyH.cons rfl (fun K hK => ?_) AllReadyH.nil
  go_simp
  refine (need_any x.nm _ hx).mono ?_
  rintro e2 w2 ⟨rfl, hw2⟩
  subst hw2
  refine hK.out _ _ hHeld (fun hHeld => ?_)
  clear hK K
  try simp only [Act.put, List.getElem_toArray, List.getElem_cons_succ, List.getElem_cons_zero, List.setIfInBounds_toArray, List.set_cons_zero, List.set_cons_succ]
  refine wpAnyH_take (i := 5) (v := ?_) rfl (by kernel_rfl) (by kernel_rfl) (by kernel_rfl) (fun _ _ _ h => h) (Or.inl ⟨by rfl, ?_⟩) hHeld ?_
  rotate_left
  · intro w' hSw; try dsimp only at hSw
    go_simp; try (with_reducible rfl)
  try simp only [Act.put, List.getElem_toArray, List.getElem_cons_succ, List.getElem_cons_zero, List.setIfInBounds_toArray, List.set_cons_zero, List.set_cons_succ]
  refine wpAnyH_take (i := 6) (v := ?_) rfl (by kernel_rfl) (by kernel_rfl) (by kernel_rfl) (fun _ _ _ h => h) (Or.inl ⟨by rfl, ?_⟩) hHeld ?_
  rotate_left
  · intro w' hSw; try dsimp only at hSw
    go_simp; try (with_reducible rfl)
  try simp only [Act.put, List.getElem_toArray, List.getElem_cons_succ, List.getElem_cons_zero, List.setIfInBounds_toArray, List.set_cons_zero, List.set_cons_succ]
  refine wpAnyH_done (by kernel_rfl) ?_ _
  refine NoPanic.normal ?_
  go_wp2
  go_ret
  exact ⟨rfl, hHeld.2.2.2⟩
set_option linter.unusedSimpArgs false in
set_option linter.unusedVariables false in
set_option maxRecDepth 100000 in
set_option maxHeartbeats 8000000 in
theorem idxNm_any (p : Option Addr) (n c : Nat) (rs : List Rc) (gp : Nat) (F : Rc → Bool) (w : World) (hx : InR w p n c rs) (hn : n ≤ 1000000) (hcl : ∀ r ∈ rs, ∀ W, Below w.heap.size w W → Calls Try.prog 60 #[r.val, .pointer (some ⟨gp, 0, none⟩)] W fun e w' => e = .returned (.bool (F r)) ∧ Below W.heap.size W w') :
    Calls Try.prog 47 #[.slice p n c, .func (.func 60) #[] #[.pointer (some ⟨gp, 0, none⟩)]] w fun e w' => e = .returned (.int .i64 (idxOf F rs 0)) ∧ Below w.heap.size w w' := by
  have HC : Hid (∀ r ∈ rs, ∀ W, Below w.heap.size w W → Calls Try.prog 60 #[r.val, .pointer (some ⟨gp, 0, none⟩)] W fun e w' => e = .returned (.bool (F r)) ∧ Below W.heap.size W w') := hcl
  have HL : Hid (rs.length = n) := hx.len
  clear hcl
  go_enter Try.func47, Try.ntmps47
  go_wp2
  go_loopw [8] (fun i wr => ∃ k : Nat, k ≤ n ∧ i = .int .i64 k ∧ Hid (∀ j y, j < k → rs[j]? = some y → F y = false) ∧ Below w.heap.size w wr) (fun i _ => n - (intOf i).toNat)
  case atStart => exact ⟨0, Nat.zero_le _, rfl, fun j y hj => absurd hj (Nat.not_lt_zero _), Below.refl _ _⟩
  case round =>
    obtain ⟨k, hk, rfl, hto, hbk⟩ := hrel
    by_cases hlt : k < n
    · obtain ⟨b, o, hpe, hbl, hc⟩ := (hx.below hbk).at' (by omega)
      subst hpe
      obtain ⟨e0, e1, e2, e3, e4⟩ := hc k hlt
      have hget := eR_get (l := rs) (k := k) (by rw [HL.out]; exact hlt)
      have hcal := HC.out (eR rs k) (eR_mem (by rw [HL.out]; exact hlt)) wr hbk
      have HG : Hid (rs[k]? = some (eR rs k)) := hget
      have hki : (k : Int) < (n : Int) := by omega
      clear hc hget
      generalize eR rs k = r at *
      obtain ⟨r1, r2, r3, r4, r5⟩ := r
      dsimp only at e0 e1 e2 e3 e4
      cases hp : F ⟨r1, r2, r3, r4, r5⟩ with
      | false =>
        rw [hp] at hcal
        have HN : Hid (∀ j y, j < k + 1 → rs[j]? = some y → F y = false) := fun j y hj hy => by
          by_cases e : j = k
          · subst e; rw [HG.out] at hy; cases hy; exact hp
          · exact hto.out j y (by omega) hy
        clear hp
        go_wp2_with (go_at_call 60; refine hcal.mono ?_; rintro e w1 ⟨rfl, hb1⟩)
        go_roundw
        case rel => exact ⟨k + 1, by omega, by go_num, HN, bt hbk hb1⟩
        case measure => simp [intOf]; omega
      | true =>
        rw [hp] at hcal
        have HN : Hid (idxOf F rs 0 = (k : Int)) := by show _ = _; rw [idxOf_hit F rs 0 k _ hto.out HG.out hp, Nat.zero_add]
        clear hp
        go_wp2_with (go_at_call 60; refine hcal.mono ?_; rintro e w1 ⟨rfl, hb1⟩)
        go_ret
        exact ⟨ret_int HN.out.symm, bt hbk hb1⟩
    · obtain rfl : k = n := by omega
      have HN : Hid (idxOf F rs 0 = -1) := idxOf_none F rs 0 (fun x hx' => by
        obtain ⟨i, hi, hix⟩ := List.getElem_of_mem hx'
        exact hto.out i x (by rw [HL.out] at hi; exact hi) (by rw [List.getElem?_eq_getElem hi, hix]))
      go_wp2
      go_ret
      exact ⟨ret_int HN.out.symm, hbk⟩
set_option linter.unusedSimpArgs false in
set_option linter.unusedVariables false in
set_option maxRecDepth 100000 in
set_option maxHeartbeats 8000000 in
theorem idxFit_any (p : Option Addr) (n c : Nat) (rs : List Rc) (gp : Nat) (F : Rc → Bool) (w : World) (hx : InR w p n c rs) (hn : n ≤ 1000000) (hcl : ∀ r ∈ rs, ∀ W, Below w.heap.size w W → Calls Try.prog 48 #[r.val, .pointer (some ⟨gp, 0, none⟩)] W fun e w' => e = .returned (.bool (F r)) ∧ Below W.heap.size W w') :
    Calls Try.prog 47 #[.slice p n c, .func (.func 48) #[] #[.pointer (some ⟨gp, 0, none⟩)]] w fun e w' => e = .returned (.int .i64 (idxOf F rs 0)) ∧ Below w.heap.size w w' := by
  have HC : Hid (∀ r ∈ rs, ∀ W, Below w.heap.size w W → Calls Try.prog 48 #[r.val, .pointer (some ⟨gp, 0, none⟩)] W fun e w' => e = .returned (.bool (F r)) ∧ Below W.heap.size W w') := hcl
  have HL : Hid (rs.length = n) := hx.len
  clear hcl
  go_enter Try.func47, Try.ntmps47
  go_wp2
  go_loopw [8] (fun i wr => ∃ k : Nat, k ≤ n ∧ i = .int .i64 k ∧ Hid (∀ j y, j < k → rs[j]? = some y → F y = false) ∧ Below w.heap.size w wr) (fun i _ => n - (intOf i).toNat)
  case atStart => exact ⟨0, Nat.zero_le _, rfl, fun j y hj => absurd hj (Nat.not_lt_zero _), Below.refl _ _⟩
  case round =>
    obtain ⟨k, hk, rfl, hto, hbk⟩ := hrel
    by_cases hlt : k < n
    · obtain ⟨b, o, hpe, hbl, hc⟩ := (hx.below hbk).at' (by omega)
      subst hpe
      obtain ⟨e0, e1, e2, e3, e4⟩ := hc k hlt
      have hget := eR_get (l := rs) (k := k) (by rw [HL.out]; exact hlt)
      have hcal := HC.out (eR rs k) (eR_mem (by rw [HL.out]; exact hlt)) wr hbk
      have HG : Hid (rs[k]? = some (eR rs k)) := hget
      have hki : (k : Int) < (n : Int) := by omega
      clear hc hget
      generalize eR rs k = r at *
      obtain ⟨r1, r2, r3, r4, r5⟩ := r
      dsimp only at e0 e1 e2 e3 e4
      cases hp : F ⟨r1, r2, r3, r4, r5⟩ with
      | false =>
        rw [hp] at hcal
        have HN : Hid (∀ j y, j < k + 1 → rs[j]? = some y → F y = false) := fun j y hj hy => by
          by_cases e : j = k
          · subst e; rw [HG.out] at hy; cases hy; exact hp
          · exact hto.out j y (by omega) hy
        clear hp
        go_wp2_with (go_at_call 48; refine hcal.mono ?_; rintro e w1 ⟨rfl, hb1⟩)
        go_roundw
        case rel => exact ⟨k + 1, by omega, by go_num, HN, bt hbk hb1⟩
        case measure => simp [intOf]; omega
      | true =>
        rw [hp] at hcal
        have HN : Hid (idxOf F rs 0 = (k : Int)) := by show _ = _; rw [idxOf_hit F rs 0 k _ hto.out HG.out hp, Nat.zero_add]
        clear hp
        go_wp2_with (go_at_call 48; refine hcal.mono ?_; rintro e w1 ⟨rfl, hb1⟩)
        go_ret
        exact ⟨ret_int HN.out.symm, bt hbk hb1⟩
    · obtain rfl : k = n := by omega
      have HN : Hid (idxOf F rs 0 = -1) := idxOf_none F rs 0 (fun x hx' => by
        obtain ⟨i, hi, hix⟩ := List.getElem_of_mem hx'
        exact hto.out i x (by rw [HL.out] at hi; exact hi) (by rw [List.getElem?_eq_getElem hi, hix]))
      go_wp2
      go_ret
      exact ⟨ret_int HN.out.symm, hbk⟩
set_option linter.unusedSimpArgs false in
set_option linter.unusedVariables false in
set_option maxRecDepth 100000 in
set_option maxHeartbeats 8000000 in
theorem placeOf_any (p : Option Addr) (n c : Nat) (rs : List Rc) (l : List UInt8) (w : World) (hx : InR w p n c rs) (hn : n ≤ 1000000) :
    Calls Try.prog 46 #[.slice p n c, .string ⟨l.toArray⟩] w fun e w' => e = .returned (.int .i64 (placeE rs l)) ∧ Below w.heap.size w w' := by
  have hb := below_alloc w (.cells #[.string ⟨l.toArray⟩] 9)
  have b0 := Blk.new' w 9 #[.string ⟨l.toArray⟩]
  have hix := idxNm_any p n c rs w.heap.size (isNm l) _ (hx.below hb) hn (fun r _ W hW => isNm_any r l w.heap.size 9 W (b0.kept hW))
  go_enter Try.func46, Try.ntmps46
  go_wp2_with (go_at_call 47; refine hix.mono ?_; rintro e w1 ⟨rfl, hb1⟩)
  go_ret
  exact ⟨rfl, bt hb hb1⟩
end Go.Proofs.Ytikigfjdddgkpaa
