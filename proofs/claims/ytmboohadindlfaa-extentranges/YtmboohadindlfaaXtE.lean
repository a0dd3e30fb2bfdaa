/-
  What slices.Equal answers of rows that are the same; few and live.
-/
import Derived.Test.YtmboohadindlfaaXtU
import Derived.Lib.SmallJoins
namespace Go.Proofs.Ytmboohadindlfaa
open Go.RowKit
def HasH (X : World) (b o : Nat) (x : Hol) : Prop := b < X.heap.size ∧ X.cell? ⟨b, o, none⟩ = some (.int .i64 x.a) ∧ X.cell? ⟨b, o + 1, none⟩ = some (.int .i64 x.l)
theorem HasH.below {X Y : World} {b o : Nat} {x : Hol} (h : HasH X b o x) (hb : Below X.heap.size X Y) : HasH Y b o x :=
  ⟨Nat.lt_of_lt_of_le h.1 hb.size, (hb.cell (p := ⟨b, o, none⟩) h.1).trans h.2.1, (hb.cell (p := ⟨b, o + 1, none⟩) h.1).trans h.2.2⟩
set_option linter.unusedSimpArgs false in
set_option linter.unusedVariables false in
set_option maxRecDepth 100000 in
set_option maxHeartbeats 4000000 in
theorem equalE_yes (p q : Option Addr) (n c d : Nat) (l : List Ext) (w : World) (hx : InE w p n c l) (hy : InE w q n d l) : Calls Try.prog 20 #[.slice p n c, .slice q n d] w fun e w' => e = .returned (.bool true) ∧ Below w.heap.size w w' := by
  have hroom := hx.room
  go_enter Try.func20, Try.ntmps20
  go_wp2
  go_loopw [13] (fun i wr => ∃ k : Nat, k ≤ n ∧ i = .int .i64 k ∧ Below w.heap.size w wr) (fun i _ => n - (intOf i).toNat)
  case atStart => exact ⟨0, Nat.zero_le _, rfl, Below.refl _ _⟩
  case round =>
    obtain ⟨k, hk, rfl, hbel⟩ := hrel
    by_cases hlt : k < n
    · have hki : (k : Int) < (n : Int) := by omega
      obtain ⟨b, o, hpe, hbl, hc⟩ := (hx.below hbel).at' (by omega)
      subst hpe
      obtain ⟨b2, o2, hpe, hbl2, hc2⟩ := (hy.below hbel).at' (by omega)
      subst hpe
      have hh1 : Has wr b (o + k * 3) (eE l k) := ⟨hbl, hc k hlt⟩
      have hh2 : Has wr b2 (o2 + k * 3) (eE l k) := ⟨hbl2, hc2 k hlt⟩
      generalize eE l k = D at *
      clear hc hc2
      go_upto_region 6 with fail
      refine wp_region_noPanic ?_
      refine wp_region_held_drew (S := fun X => Has X b (o + k * 3) D ∧ Has X b2 (o2 + k * 3) D) (by kernel_rfl) ⟨hh1.below (Below.refl _ _).drew, hh2.below (Below.refl _ _).drew⟩ (fun hHeld => ?_)
      refine wpAnyH_take (i := 0) (v := ?_) rfl (by kernel_rfl) (by kernel_rfl) (by kernel_rfl) (fun _ _ _ h => h) (Or.inl ⟨by rfl, ?_⟩) hHeld ?_
      rotate_left
      · intro w' hSw; try dsimp only at hSw
        obtain ⟨⟨_, c0, c1, c2⟩, _, d0, d1, d2⟩ := hSw
        go_simp; try (with_reducible rfl)
      try simp only [Act.put, List.getElem_toArray, List.getElem_cons_succ, List.getElem_cons_zero, List.setIfInBounds_toArray, List.set_cons_zero, List.set_cons_succ]
      refine wpAnyH_take (i := 1) (v := ?_) rfl (by kernel_rfl) (by kernel_rfl) (by kernel_rfl) (fun _ _ _ h => h) (Or.inl ⟨by rfl, ?_⟩) hHeld ?_
      rotate_left
      · intro w' hSw; try dsimp only at hSw
        obtain ⟨⟨_, c0, c1, c2⟩, _, d0, d1, d2⟩ := hSw
        go_simp; try (with_reducible rfl)
      try simp only [Act.put, List.getElem_toArray, List.getElem_cons_succ, List.getElem_cons_zero, List.setIfInBounds_toArray, List.set_cons_zero, List.set_cons_succ]
      refine wpAnyH_take (i := 2) (v := ?_) rfl (by kernel_rfl) (by kernel_rfl) (by kernel_rfl) (fun _ _ _ h => h) (Or.inl ⟨by rfl, ?_⟩) hHeld ?_
      rotate_left
      · intro w' hSw; try dsimp only at hSw
        obtain ⟨⟨_, c0, c1, c2⟩, _, d0, d1, d2⟩ := hSw
        go_simp; try (with_reducible rfl)
      try simp only [Act.put, List.getElem_toArray, List.getElem_cons_succ, List.getElem_cons_zero, List.setIfInBounds_toArray, List.set_cons_zero, List.set_cons_succ]
      refine wpAnyH_take (i := 3) (v := ?_) rfl (by kernel_rfl) (by kernel_rfl) (by kernel_rfl) (fun _ _ _ h => h) (Or.inl ⟨by rfl, ?_⟩) hHeld ?_
      rotate_left
      · intro w' hSw; try dsimp only at hSw
        obtain ⟨⟨_, c0, c1, c2⟩, _, d0, d1, d2⟩ := hSw
        go_simp; try (with_reducible rfl)
      try simp only [Act.put, List.getElem_toArray, List.getElem_cons_succ, List.getElem_cons_zero, List.setIfInBounds_toArray, List.set_cons_zero, List.set_cons_succ]
      refine wpAnyH_take (i := 4) (v := ?_) rfl (by kernel_rfl) (by kernel_rfl) (by kernel_rfl) (fun _ _ _ h => h) (Or.inl ⟨by rfl, ?_⟩) hHeld ?_
      rotate_left
      · intro w' hSw; try dsimp only at hSw
        obtain ⟨⟨_, c0, c1, c2⟩, _, d0, d1, d2⟩ := hSw
        go_simp; try (with_reducible rfl)
      try simp only [Act.put, List.getElem_toArray, List.getElem_cons_succ, List.getElem_cons_zero, List.setIfInBounds_toArray, List.set_cons_zero, List.set_cons_succ]
      refine wpAnyH_take (i := 5) (v := ?_) rfl (by kernel_rfl) (by kernel_rfl) (by kernel_rfl) (fun _ _ _ h => h) (Or.inl ⟨by rfl, ?_⟩) hHeld ?_
      rotate_left
      · intro w' hSw; try dsimp only at hSw
        obtain ⟨⟨_, c0, c1, c2⟩, _, d0, d1, d2⟩ := hSw
        go_simp; try (with_reducible rfl)
      try simp only [Act.put, List.getElem_toArray, List.getElem_cons_succ, List.getElem_cons_zero, List.setIfInBounds_toArray, List.set_cons_zero, List.set_cons_succ]
      refine wpAnyH_take (i := 6) (v := ?_) rfl (by kernel_rfl) (by kernel_rfl) (by kernel_rfl) (fun _ _ _ h => h) (Or.inl ⟨by rfl, ?_⟩) hHeld ?_
      rotate_left
      · intro w' hSw; try dsimp only at hSw
        obtain ⟨⟨_, c0, c1, c2⟩, _, d0, d1, d2⟩ := hSw
        go_simp; try (with_reducible rfl)
      try simp only [Act.put, List.getElem_toArray, List.getElem_cons_succ, List.getElem_cons_zero, List.setIfInBounds_toArray, List.set_cons_zero, List.set_cons_succ]
      refine wpAnyH_take (i := 7) (v := ?_) rfl (by kernel_rfl) (by kernel_rfl) (by kernel_rfl) (fun _ _ _ h => h) (Or.inl ⟨by rfl, ?_⟩) hHeld ?_
      rotate_left
      · intro w' hSw; try dsimp only at hSw
        obtain ⟨⟨_, c0, c1, c2⟩, _, d0, d1, d2⟩ := hSw
        go_simp; try (with_reducible rfl)
      try simp only [Act.put, List.getElem_toArray, List.getElem_cons_succ, List.getElem_cons_zero, List.setIfInBounds_toArray, List.set_cons_zero, List.set_cons_succ]
      refine wpAnyH_take (i := 8) (v := ?_) rfl (by kernel_rfl) (by kernel_rfl) (by kernel_rfl) (fun _ _ _ h => h) (Or.inl ⟨by rfl, ?_⟩) hHeld ?_
      rotate_left
      · intro w' hSw; try dsimp only at hSw
        obtain ⟨⟨_, c0, c1, c2⟩, _, d0, d1, d2⟩ := hSw
        go_simp; try (with_reducible rfl)
      try simp only [Act.put, List.getElem_toArray, List.getElem_cons_succ, List.getElem_cons_zero, List.setIfInBounds_toArray, List.set_cons_zero, List.set_cons_succ]
      refine wpAnyH_done (by kernel_rfl) ?_ _
      refine NoPanic.normal ?_
      go_wp2
      go_roundw
      case rel => exact ⟨k + 1, by omega, by go_num, hbel.drew⟩
      case measure => simp [intOf]; omega
    · have hkn : ¬ (k : Int) < (n : Int) := by omega
      go_wp2
      go_ret
      exact ⟨rfl, hbel⟩
set_option linter.unusedSimpArgs false in
set_option linter.unusedVariables false in
set_option maxRecDepth 100000 in
set_option maxHeartbeats 4000000 in
theorem equalH_yes (p q : Option Addr) (n c d : Nat) (l : List Hol) (w : World) (hx : InH w p n c l) (hy : InH w q n d l) : Calls Try.prog 23 #[.slice p n c, .slice q n d] w fun e w' => e = .returned (.bool true) ∧ Below w.heap.size w w' := by
  have hroom := hx.room
  go_enter Try.func23, Try.ntmps23
  go_wp2
  go_loopw [13] (fun i wr => ∃ k : Nat, k ≤ n ∧ i = .int .i64 k ∧ Below w.heap.size w wr) (fun i _ => n - (intOf i).toNat)
  case atStart => exact ⟨0, Nat.zero_le _, rfl, Below.refl _ _⟩
  case round =>
    obtain ⟨k, hk, rfl, hbel⟩ := hrel
    by_cases hlt : k < n
    · have hki : (k : Int) < (n : Int) := by omega
      obtain ⟨b, o, hpe, hbl, hc⟩ := (hx.below hbel).at' (by omega)
      subst hpe
      obtain ⟨b2, o2, hpe, hbl2, hc2⟩ := (hy.below hbel).at' (by omega)
      subst hpe
      have hh1 : HasH wr b (o + k * 2) (eH l k) := ⟨hbl, hc k hlt⟩
      have hh2 : HasH wr b2 (o2 + k * 2) (eH l k) := ⟨hbl2, hc2 k hlt⟩
      generalize eH l k = D at *
      clear hc hc2
      go_upto_region 6 with fail
      refine wp_region_noPanic ?_
      refine wp_region_held_drew (S := fun X => HasH X b (o + k * 2) D ∧ HasH X b2 (o2 + k * 2) D) (by kernel_rfl) ⟨hh1.below (Below.refl _ _).drew, hh2.below (Below.refl _ _).drew⟩ (fun hHeld => ?_)
      refine wpAnyH_take (i := 0) (v := ?_) rfl (by kernel_rfl) (by kernel_rfl) (by kernel_rfl) (fun _ _ _ h => h) (Or.inl ⟨by rfl, ?_⟩) hHeld ?_
      rotate_left
      · intro w' hSw; try dsimp only at hSw
        obtain ⟨⟨_, c0, c1⟩, _, d0, d1⟩ := hSw
        go_simp; try (with_reducible rfl)
      try simp only [Act.put, List.getElem_toArray, List.getElem_cons_succ, List.getElem_cons_zero, List.setIfInBounds_toArray, List.set_cons_zero, List.set_cons_succ]
      refine wpAnyH_take (i := 1) (v := ?_) rfl (by kernel_rfl) (by kernel_rfl) (by kernel_rfl) (fun _ _ _ h => h) (Or.inl ⟨by rfl, ?_⟩) hHeld ?_
      rotate_left
      · intro w' hSw; try dsimp only at hSw
        obtain ⟨⟨_, c0, c1⟩, _, d0, d1⟩ := hSw
        go_simp; try (with_reducible rfl)
      try simp only [Act.put, List.getElem_toArray, List.getElem_cons_succ, List.getElem_cons_zero, List.setIfInBounds_toArray, List.set_cons_zero, List.set_cons_succ]
      refine wpAnyH_take (i := 2) (v := ?_) rfl (by kernel_rfl) (by kernel_rfl) (by kernel_rfl) (fun _ _ _ h => h) (Or.inl ⟨by rfl, ?_⟩) hHeld ?_
      rotate_left
      · intro w' hSw; try dsimp only at hSw
        obtain ⟨⟨_, c0, c1⟩, _, d0, d1⟩ := hSw
        go_simp; try (with_reducible rfl)
      try simp only [Act.put, List.getElem_toArray, List.getElem_cons_succ, List.getElem_cons_zero, List.setIfInBounds_toArray, List.set_cons_zero, List.set_cons_succ]
      refine wpAnyH_take (i := 3) (v := ?_) rfl (by kernel_rfl) (by kernel_rfl) (by kernel_rfl) (fun _ _ _ h => h) (Or.inl ⟨by rfl, ?_⟩) hHeld ?_
      rotate_left
      · intro w' hSw; try dsimp only at hSw
        obtain ⟨⟨_, c0, c1⟩, _, d0, d1⟩ := hSw
        go_simp; try (with_reducible rfl)
      try simp only [Act.put, List.getElem_toArray, List.getElem_cons_succ, List.getElem_cons_zero, List.setIfInBounds_toArray, List.set_cons_zero, List.set_cons_succ]
      refine wpAnyH_take (i := 4) (v := ?_) rfl (by kernel_rfl) (by kernel_rfl) (by kernel_rfl) (fun _ _ _ h => h) (Or.inl ⟨by rfl, ?_⟩) hHeld ?_
      rotate_left
      · intro w' hSw; try dsimp only at hSw
        obtain ⟨⟨_, c0, c1⟩, _, d0, d1⟩ := hSw
        go_simp; try (with_reducible rfl)
      try simp only [Act.put, List.getElem_toArray, List.getElem_cons_succ, List.getElem_cons_zero, List.setIfInBounds_toArray, List.set_cons_zero, List.set_cons_succ]
      refine wpAnyH_take (i := 5) (v := ?_) rfl (by kernel_rfl) (by kernel_rfl) (by kernel_rfl) (fun _ _ _ h => h) (Or.inl ⟨by rfl, ?_⟩) hHeld ?_
      rotate_left
      · intro w' hSw; try dsimp only at hSw
        obtain ⟨⟨_, c0, c1⟩, _, d0, d1⟩ := hSw
        go_simp; try (with_reducible rfl)
      try simp only [Act.put, List.getElem_toArray, List.getElem_cons_succ, List.getElem_cons_zero, List.setIfInBounds_toArray, List.set_cons_zero, List.set_cons_succ]
      refine wpAnyH_take (i := 6) (v := ?_) rfl (by kernel_rfl) (by kernel_rfl) (by kernel_rfl) (fun _ _ _ h => h) (Or.inl ⟨by rfl, ?_⟩) hHeld ?_
      rotate_left
      · intro w' hSw; try dsimp only at hSw
        obtain ⟨⟨_, c0, c1⟩, _, d0, d1⟩ := hSw
        go_simp; try (with_reducible rfl)
      try simp only [Act.put, List.getElem_toArray, List.getElem_cons_succ, List.getElem_cons_zero, List.setIfInBounds_toArray, List.set_cons_zero, List.set_cons_succ]
      refine wpAnyH_take (i := 7) (v := ?_) rfl (by kernel_rfl) (by kernel_rfl) (by kernel_rfl) (fun _ _ _ h => h) (Or.inl ⟨by rfl, ?_⟩) hHeld ?_
      rotate_left
      · intro w' hSw; try dsimp only at hSw
        obtain ⟨⟨_, c0, c1⟩, _, d0, d1⟩ := hSw
        go_simp; try (with_reducible rfl)
      try simp only [Act.put, List.getElem_toArray, List.getElem_cons_succ, List.getElem_cons_zero, List.setIfInBounds_toArray, List.set_cons_zero, List.set_cons_succ]
      refine wpAnyH_take (i := 8) (v := ?_) rfl (by kernel_rfl) (by kernel_rfl) (by kernel_rfl) (fun _ _ _ h => h) (Or.inl ⟨by rfl, ?_⟩) hHeld ?_
      rotate_left
      · intro w' hSw; try dsimp only at hSw
        obtain ⟨⟨_, c0, c1⟩, _, d0, d1⟩ := hSw
        go_simp; try (with_reducible rfl)
      try simp only [Act.put, List.getElem_toArray, List.getElem_cons_succ, List.getElem_cons_zero, List.setIfInBounds_toArray, List.set_cons_zero, List.set_cons_succ]
      refine wpAnyH_done (by kernel_rfl) ?_ _
      refine NoPanic.normal ?_
      go_wp2
      go_roundw
      case rel => exact ⟨k + 1, by omega, by go_num, hbel.drew⟩
      case measure => simp [intOf]; omega
    · have hkn : ¬ (k : Int) < (n : Int) := by omega
      go_wp2
      go_ret
      exact ⟨rfl, hbel⟩
theorem owns_litE (w : World) {cs : Array Value} {l : List Ext} {n : Nat} (h : cs.toList = flatE l) (hn : l.length = n) (hr : n ≤ 1000) :
    InE (w.alloc (.cells cs 31)) (some ⟨w.heap.size, 0, none⟩) n n l := by
  have hs : cs.size = n * 3 := by rw [← Array.length_toList, h, flatE_length, hn]
  have ho := World.ownsRow_lit (e := 31) (size := 3) (base := 0) w cs n (Nat.zero_le _) (by unfold maxLen; omega) hs
  rw [h] at ho
  obtain ⟨p, c, hv, hin⟩ := in_of_ownsE ho (by omega)
  cases hv
  exact hin
set_option linter.unusedSimpArgs false in
set_option linter.unusedVariables false in
set_option maxRecDepth 100000 in
set_option maxHeartbeats 4000000 in
theorem few_one (g : Nat) (p : Option Addr) (n c : Nat) (w : World) (hc : w.cell? ⟨g, 0, none⟩ = some (.slice p n c)) (hn : n ≤ 140737488355328) :
    Calls Try.prog 9 #[.slice (some ⟨g, 0, none⟩) 1 1] w fun e w' => e = .returned (.bool (decide (n ≤ 200))) ∧ w' = w := by
  have HB : Hid (n ≤ 140737488355328) := hn
  clear hn
  go_enter Try.func9, Try.ntmps9
  go_wp2
  go_loopw [3, 12] (fun s i wr => wr = w ∧ ((i = .int .i64 0 ∧ s = .int .i64 0) ∨ (i = .int .i64 1 ∧ s = .int .i64 (n : Int) ∧ n ≤ 200))) (fun _ i _ => 1 - (intOf i).toNat)
  case atStart => exact ⟨rfl, .inl ⟨rfl, rfl⟩⟩
  case round =>
    obtain ⟨rfl, ⟨rfl, rfl⟩ | ⟨rfl, rfl, h2⟩⟩ := hrel
    · by_cases h2 : n ≤ 200
      · have h3 : ¬ (n : Int) > 200 := by omega
        have h4 : (n : Int) ≤ 200 := by omega
        have HN : Hid (n ≤ 200) := h2
        clear h2
        go_wp2
        go_roundw
        case rel => exact ⟨trivial, .inr ⟨by simp, by simp, HN.out⟩⟩
        case measure => simp [intOf]
      · have h3 : (n : Int) > 200 := by omega
        have HD : Hid (decide (n ≤ 200) = false) := decide_eq_false h2
        clear h2
        go_wp2
        go_ret
        exact ⟨ret_bool HD.out.symm, rfl⟩
    · have h3 : (n : Int) ≤ 400 := by omega
      have HD : Hid (decide (n ≤ 200) = true) := decide_eq_true h2
      clear h2
      go_wp2
      go_ret
      exact ⟨ret_bool HD.out.symm, rfl⟩
theorem live1 : putL ⟨4, 2, 14⟩ [⟨0, 4, 10⟩] = [⟨0, 6, 10⟩] := by
  unfold putL
  rw [show normL (leftL 4 (endI ⟨4, 2, 14⟩) [⟨0, 4, 10⟩]) = [⟨0, 4, 10⟩] from rfl]
  have h : Ord [⟨0, 4, 10⟩, ⟨4, 2, 14⟩] := ⟨fun e he => by simp at he; rcases he with rfl | rfl <;> rfl, by simp [endI]⟩
  rw [List.singleton_append, (ord_norm h (List.Perm.refl _)).2]
  rfl
theorem live2 : runsL 4 (endI ⟨4, 2, 14⟩) [⟨0, 4, 10⟩] = [] := rfl
theorem live3 : normL (leftL 2 (toI 2 1) [⟨0, 6, 10⟩]) = [⟨0, 2, 10⟩, ⟨3, 3, 13⟩] := rfl
theorem live4 : runsL 2 (toI 2 1) [⟨0, 6, 10⟩] = [⟨2, 1, 12⟩] := rfl
set_option linter.unusedSimpArgs false in
set_option linter.unusedVariables false in
set_option maxRecDepth 100000 in
set_option maxHeartbeats 4000000 in
theorem live_any (w : World) : Calls Try.prog 8 #[] w fun e w' => e = .returned (.bool true) ∧ Below w.heap.size w w' := by
  have hb0 := below_alloc w (.cells #[.int .i64 0, .int .i64 4, .int .i64 10] 31)
  have hl0 : InE (w.alloc (.cells #[.int .i64 0, .int .i64 4, .int .i64 10] 31)) (some ⟨w.heap.size, 0, none⟩) 1 1 [⟨0, 4, 10⟩] := owns_litE w rfl rfl (by omega)
  have hput := put_yes _ _ _ _ ⟨4, 2, 14⟩ _ hl0 (by omega) rfl rfl
  rw [live1, live2] at hput
  go_enter Try.func8, Try.ntmps8
  go_wp2_with fail
  refine hput.mono ?_
  rintro e9 w1 ⟨v1, v2, rfl, ho1, ho2, hb1⟩
  have b1 := bt hb0 hb1
  obtain ⟨p1, c1, hv1, hi1⟩ := in_of_ownsE ho1 (by simp)
  subst hv1
  obtain ⟨p2, c2, hv2, hi2⟩ := in_of_ownsE ho2 (by simp)
  subst hv2
  have hpun := punch_ok p1 1 c1 [⟨0, 6, 10⟩] 2 1 w1 hi1 (by omega) rfl (by omega) (by omega) (by omega)
  rw [live3, live4] at hpun
  clear hput hl0 hb0 ho1 ho2 hb1 hi2
  simp only [List.length_cons, List.length_nil, Nat.zero_add] at hpun hi1 ⊢
  go_wp2_with fail
  refine hpun.mono ?_
  rintro e9 w2 ⟨v3, v4, rfl, ho3, ho4, -, hb2⟩
  obtain ⟨p3, c3, hv3, hi3⟩ := in_of_ownsE ho3 (by simp)
  subst hv3
  obtain ⟨p4, c4, hv4, hi4⟩ := in_of_ownsE ho4 (by simp)
  subst hv4
  have hi1 := hi1.below hb2
  have b2 := bt b1 hb2
  clear hpun ho3 ho4 hb2 b1
  have a2 := below_alloc w2 (.cells #[.int .i64 0, .int .i64 6, .int .i64 10] 31)
  have hq1 := equalE_yes _ _ _ _ _ _ _ (hi1.below a2) (owns_litE w2 (cs := #[.int .i64 0, .int .i64 6, .int .i64 10]) (l := [⟨0, 6, 10⟩]) rfl rfl (by omega))
  go_wp2_with fail
  refine hq1.mono ?_
  rintro e9 w3 ⟨rfl, hb3⟩
  have b23 := bt a2 hb3
  have hi3 := hi3.below b23
  have hi4 := hi4.below b23
  have b3 := bt b2 b23
  clear hq1 a2 hb3 b23 b2 hi1
  have a3 := below_alloc w3 (.cells #[.int .i64 0, .int .i64 2, .int .i64 10, .int .i64 3, .int .i64 3, .int .i64 13] 31)
  have hq2 := equalE_yes _ _ _ _ _ _ _ (hi3.below a3) (owns_litE w3 (cs := #[.int .i64 0, .int .i64 2, .int .i64 10, .int .i64 3, .int .i64 3, .int .i64 13]) (l := [⟨0, 2, 10⟩, ⟨3, 3, 13⟩]) rfl rfl (by omega))
  go_wp2_with fail
  refine hq2.mono ?_
  rintro e9 w4 ⟨rfl, hb4⟩
  have b34 := bt a3 hb4
  have hi4 := hi4.below b34
  have b4 := bt b3 b34
  clear hq2 a3 hb4 b34 b3 hi3
  have a4 := below_alloc w4 (.cells #[.int .i64 2, .int .i64 1, .int .i64 12] 31)
  have hq3 := equalE_yes _ _ _ _ _ _ _ (hi4.below a4) (owns_litE w4 (cs := #[.int .i64 2, .int .i64 1, .int .i64 12]) (l := [⟨2, 1, 12⟩]) rfl rfl (by omega))
  go_wp2_with fail
  refine hq3.mono ?_
  rintro e9 w5 ⟨rfl, hb5⟩
  have b5 := bt b4 (bt a4 hb5)
  clear hq3 a4 hb5 b4 hi4
  go_wp2
  go_ret
  exact ⟨rfl, b5⟩
end Go.Proofs.Ytmboohadindlfaa
