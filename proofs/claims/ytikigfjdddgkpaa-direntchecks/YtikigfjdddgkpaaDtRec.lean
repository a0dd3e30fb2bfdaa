/-
  What dirent.recordAt answers.
-/
import Derived.Test.YtikigfjdddgkpaaDtNm
import Derived.Test.YtikigfjdddgkpaaDtSl
namespace Go.Proofs.Ytikigfjdddgkpaa
open Go.RowKit
def lnAt (xs : List Nat) (a : Nat) : Nat := numB ((xs.drop (a + 4)).take 2)
def nmAt (xs : List Nat) (a : Nat) : List UInt8 := nmOf ((xs.drop (a + 8)).take (xs.getD (a + 6) 0))
def inAt (xs : List Nat) (a : Nat) : Nat := numB ((xs.drop a).take 4)
def kdAt (xs : List Nat) (a : Nat) : Nat := xs.getD (a + 7) 0
def rcAt (xs : List Nat) (a : Nat) : Rc := ⟨(a : Int), (lnAt xs a : Nat), nmAt xs a, (inAt xs a : Nat), (kdAt xs a : Nat)⟩
theorem recAt_short {xs : List Nat} {a : Nat} (h : xs.length < a + 8) : recAt xs a = none := by unfold recAt; rw [if_pos h]
theorem recAt_name {xs : List Nat} {a : Nat} (h : ¬ xs.length < a + 8) (h2 : xs.length < a + 8 + xs.getD (a + 6) 0) : recAt xs a = none := by unfold recAt; rw [if_neg h, if_pos h2]
theorem recAt_bad {xs : List Nat} {a : Nat} (h3 : (lnAt xs a : Int) % 4 ≠ 0 ∨ (lnAt xs a : Int) < needE (nmAt xs a) ∨ ((xs.length : Int) - a) < (lnAt xs a : Int)) : recAt xs a = none := by
  unfold recAt
  split
  · rfl
  · split
    · rfl
    · exact if_pos h3
theorem recAt_ok {xs : List Nat} {a : Nat} (h2 : ¬ xs.length < a + 8 + xs.getD (a + 6) 0) (h3 : ¬ ((lnAt xs a : Int) % 4 ≠ 0 ∨ (lnAt xs a : Int) < needE (nmAt xs a) ∨ ((xs.length : Int) - a) < (lnAt xs a : Int))) :
    recAt xs a = if (if (rcAt xs a).has then nmOk (nmAt xs a) && inoOk (inAt xs a : Nat) (kdAt xs a : Nat) else nmAt xs a == [] && ((kdAt xs a : Nat) : Int) == 0) then some (rcAt xs a) else none := by
  unfold recAt
  rw [if_neg (by omega), if_neg h2]
  exact if_neg h3
/-- What recordAt answers. -/
def RecAns (RA : Option Rc) (w w' : World) (e : Ending) : Prop := ∃ r v, e = .returned (.tuple #[Rc.val r, .bool v]) ∧ (RA = if v then some r else none) ∧ Below w.heap.size w w'
theorem byteAt_lt {xs : List Nat} (h : ∀ x ∈ xs, x < 256) (i : Nat) : xs.getD i 0 < 256 := by
  have := el_range h i
  unfold el at this
  omega
set_option linter.unusedSimpArgs false in
set_option linter.unusedVariables false in
set_option maxRecDepth 100000 in
set_option maxHeartbeats 8000000 in
theorem recordAt_any (b o c a : Nat) (xs : List Nat) (w : World) (hx : In w (some ⟨b, o, none⟩) 256 c xs) (ha : a < 256) :
    Calls Try.prog 58 #[.slice (some ⟨b, o, none⟩) 256 c, .int .i64 (a : Int)] w fun e w' => RecAns (recAt xs a) w w' e := by
  have HX : Hid (xs.length = 256) := hx.len
  have hcap := hx.cap
  have Z5 := below_alloc w (.cells #[.int .i64 0, .int .i64 0, .string ⟨#[]⟩, .int .i64 0, .int .i64 0] 69)
  have z4 := Blk.new' w 69 #[.int .i64 0, .int .i64 0, .string ⟨#[]⟩, .int .i64 0, .int .i64 0]
  by_cases hs : 256 < a + 8
  · have HR : Hid (recAt xs a = none) := recAt_short (by rw [HX.out]; exact hs)
    have hlt : (256 : Int) - (a : Int) < 8 := by omega
    go_enter Try.func58, Try.ntmps58
    go_wp2
    refine ret_recV rfl rfl z4 rfl rfl ?_
    exact ⟨rc0, false, rfl, HR.out, Z5⟩
  · have hlt : ¬ ((256 : Int) - (a : Int) < 8) := by omega
    have hbl := (hx.at' (by decide))
    obtain ⟨b', o', hpe, hblt, -⟩ := hbl
    cases hpe
    obtain ⟨o1, ho1⟩ : ∃ o1, o1 = o + a := ⟨_, rfl⟩
    obtain ⟨o7, ho7⟩ : ∃ o7, o7 = o + (a + 7) := ⟨_, rfl⟩
    obtain ⟨o6, ho6⟩ : ∃ o6, o6 = o + (a + 6) := ⟨_, rfl⟩
    obtain ⟨o4, ho4⟩ : ∃ o4, o4 = o + (a + 4) := ⟨_, rfl⟩
    obtain ⟨c1, hc1⟩ : ∃ c1, c1 = c - a := ⟨_, rfl⟩
    obtain ⟨c4, hc4⟩ : ∃ c4, c4 = c - (a + 4) := ⟨_, rfl⟩
    obtain ⟨n8, hn8⟩ : ∃ n8, n8 = 256 - (a + 8) := ⟨_, rfl⟩
    obtain ⟨c8, hc8⟩ : ∃ c8, c8 = c - (a + 8) := ⟨_, rfl⟩
    have ha8 : (a : Int) + 8 = ((a + 8 : Nat) : Int) := by omega
    have hsl6 : ∀ W, (Instr.slice 22 (.slice (some ⟨b, o, none⟩) 256 c) (some (.int .i64 (a : Int))) (some (.int .i64 ((a : Int) + 8))) none).run Try.prog W = .ok (.slice (some ⟨b, o1, none⟩) 8 c1) W := fun W => by
      rw [ha8, slice_mid b o 256 c a (a + 8) (by omega) (by omega) hcap W, ho1, hc1, show a + 8 - a = 8 by omega]
    obtain ⟨o8, hsl8, hI8', -⟩ := slice_rest hx (k := a + 8) (by omega)
    rw [← hn8, ← hc8] at hsl8 hI8'
    rw [← ha8] at hsl8
    have hsl4 : ∀ W, (Instr.slice 22 (.slice (some ⟨b, o1, none⟩) 8 c1) (some (.int .i64 4)) (some (.int .i64 6)) none).run Try.prog W = .ok (.slice (some ⟨b, o4, none⟩) 2 c4) W := fun W => by
      have := slice_mid b o1 8 c1 4 6 (by omega) (by omega) (by omega) W
      rw [show o1 + 4 = o4 by omega, show c1 - 4 = c4 by omega] at this
      exact this
    have hsl0 : ∀ W, (Instr.slice 22 (.slice (some ⟨b, o1, none⟩) 8 c1) none (some (.int .i64 4)) none).run Try.prog W = .ok (.slice (some ⟨b, o1, none⟩) 4 c1) W := fun W => slice_front _ 8 c1 4 (by omega) (by omega) W
    have hI2 := (hx.back (a + 4) (by omega)).front 2 (by omega)
    rw [← ho4, ← hc4] at hI2
    have hI4 := (hx.back a (by omega)).front 4 (by omega)
    rw [← ho1, ← hc1] at hI4
    have hc6 := hx.cellAt (i := a + 6) (by omega)
    have hc7 := hx.cellAt (i := a + 7) (by omega)
    rw [← ho6] at hc6
    rw [← ho7] at hc7
    have hK := byteAt_lt hx.byte (a + 6)
    have hKD := byteAt_lt hx.byte (a + 7)
    have HLN : Hid (lnAt xs a < 65536) := by
      have h := numB_lt hI2.byte
      rw [hI2.len] at h
      exact h
    have HIN : Hid (inAt xs a < 4294967296) := by
      have h := numB_lt hI4.byte
      rw [hI4.len] at h
      exact h
    have HRn : Hid (n8 < xs.getD (a + 6) 0 → recAt xs a = none) := fun h => recAt_name (by rw [HX.out]; omega) (by rw [HX.out]; omega)
    have HRb : Hid (((lnAt xs a : Int) % 4 ≠ 0 ∨ (lnAt xs a : Int) < needE (nmAt xs a) ∨ (256 - (a : Int)) < (lnAt xs a : Int)) → recAt xs a = none) := fun h => recAt_bad (by rw [HX.out]; exact h)
    have HRo : Hid (¬ n8 < xs.getD (a + 6) 0 → ¬ ((lnAt xs a : Int) % 4 ≠ 0 ∨ (lnAt xs a : Int) < needE (nmAt xs a) ∨ (256 - (a : Int)) < (lnAt xs a : Int)) → recAt xs a = if (if (rcAt xs a).has then nmOk (nmAt xs a) && inoOk (inAt xs a : Nat) (kdAt xs a : Nat) else nmAt xs a == [] && ((kdAt xs a : Nat) : Int) == 0) then some (rcAt xs a) else none) := fun h1 h2 => recAt_ok (by rw [HX.out]; omega) (by rw [HX.out]; exact h2)
    have HNM : Hid (nmAt xs a = nmOf ((xs.drop (a + 8)).take (xs.getD (a + 6) 0))) := rfl
    have HLE : Hid (numB ((xs.drop (a + 4)).take 2) = lnAt xs a) := rfl
    have HIE : Hid (numB ((xs.drop a).take 4) = inAt xs a) := rfl
    have HKE : Hid (xs.getD (a + 7) 0 = kdAt xs a) := rfl
    rw [HKE.out] at hc7 hKD
    unfold rcAt at HRo
    generalize recAt xs a = RA at *
    generalize lnAt xs a = LN at *
    generalize inAt xs a = IN at *
    generalize kdAt xs a = KD at *
    generalize nmAt xs a = NM at *
    generalize hKe : xs.getD (a + 6) 0 = K at *
    generalize xs.drop (a + 8) = L8 at *
    generalize (xs.drop (a + 4)).take 2 = L2 at *
    generalize (xs.drop a).take 4 = L4 at *
    have HO : Hid (o1 = o + a ∧ o4 = o + (a + 4) ∧ o6 = o + (a + 6) ∧ o7 = o + (a + 7) ∧ c1 = c - a ∧ c4 = c - (a + 4) ∧ n8 = 256 - (a + 8) ∧ c8 = c - (a + 8)) := ⟨ho1, ho4, ho6, ho7, hc1, hc4, hn8, hc8⟩
    have ho16 : o1 + 6 = o6 := by omega
    have ho17 : o1 + 7 = o7 := by omega
    have hnn8 : n8 ≤ 248 := by omega
    have hnc8 : n8 ≤ c8 := by omega
    clear ha8 ho1 ho4 ho6 ho7 hc1 hc4 hn8 hc8 hKe
    by_cases hkn : n8 < K
    · have HR : Hid (RA = none) := HRn.out hkn
      have hkz : (n8 : Int) < (K : Int) := by omega
      go_enter Try.func58, Try.ntmps58
      go_wp2
      go_quiet (fail)
      generalize hW : World.drewN _ nq = W
      have hZW : Below w.heap.size w W := by rw [← hW]; exact below_drewN Z5 nq
      have z4W : Blk W w.heap.size 69 [.int .i64 0, .int .i64 0, .string ⟨#[]⟩, .int .i64 0, .int .i64 0] := by rw [← hW]; exact z4.drewN nq
      have hI2W := hI2.below hZW
      have hc6W := (hZW.cell (p := ⟨b, o6, none⟩) hblt).trans hc6
      have hszW := hZW.size
      have hB6 := bt hZW (below_alloc W (.cells #[.int .i64 (a : Int), .int .i64 (LN : Int), .string ⟨#[]⟩, .int .i64 0, .int .i64 0] 69))
      have k4 := z4W.alloc (.cells #[.int .i64 (a : Int), .int .i64 (LN : Int), .string ⟨#[]⟩, .int .i64 0, .int .i64 0] 69)
      have k5 := Blk.new' W 69 #[.int .i64 (a : Int), .int .i64 (LN : Int), .string ⟨#[]⟩, .int .i64 0, .int .i64 0]
      have hc6V := (hB6.cell (p := ⟨b, o6, none⟩) hblt).trans hc6
      go_wp2_with (first
        | (go_at_call 65; refine (number_any _ 2 _ _ _ hI2W (by omega)).mono ?_; rintro e5 w5 ⟨rfl, hw5⟩; subst hw5; rw [HLE.out])
        | (refine wpList_store_blk rfl 69 (.tmp 4) (.tmp 38) rfl _ 0 [.int .i64 0, .int .i64 0, .string ⟨#[]⟩, .int .i64 0, .int .i64 0] rfl rfl k4 (by simp) (by kernel_rfl) (by simp [Value.oneCell']) ?_; intro w7 h7 ht7; replace h7 : Blk w7 _ 69 [.int .i64 0, .int .i64 0, .string ⟨#[]⟩, .int .i64 0, .int .i64 0] := h7))
      refine ret_recV rfl rfl h7 rfl rfl ?_
      exact ⟨rc0, false, rfl, HR.out, ht7.below hB6 (Nat.le_refl _)⟩
    · have hkz : ¬ (n8 : Int) < (K : Int) := by omega
      have hI8 := hI8'.front K (by omega)
      have hslK : ∀ W, (Instr.slice 22 (.slice (some ⟨b, o8, none⟩) n8 c8) none (some (.int .i64 (K : Int))) none).run Try.prog W = .ok (.slice (some ⟨b, o8, none⟩) K c8) W := fun W => slice_front _ n8 c8 K (by omega) (by omega) W
      have HNL : Hid (NM.length = K) := by show _ = _; rw [HNM.out, nmOf_length]; exact hI8.len
      go_enter Try.func58, Try.ntmps58
      go_wp2
      go_quiet (fail)
      generalize hW : World.drewN _ nq = W
      have hZW : Below w.heap.size w W := by rw [← hW]; exact below_drewN Z5 nq
      have z4W : Blk W w.heap.size 69 [.int .i64 0, .int .i64 0, .string ⟨#[]⟩, .int .i64 0, .int .i64 0] := by rw [← hW]; exact z4.drewN nq
      have hI2W := hI2.below hZW
      have hc6W := (hZW.cell (p := ⟨b, o6, none⟩) hblt).trans hc6
      have hszW := hZW.size
      have hB6 := bt hZW (below_alloc W (.cells #[.int .i64 (a : Int), .int .i64 (LN : Int), .string ⟨#[]⟩, .int .i64 0, .int .i64 0] 69))
      have k4 := z4W.alloc (.cells #[.int .i64 (a : Int), .int .i64 (LN : Int), .string ⟨#[]⟩, .int .i64 0, .int .i64 0] 69)
      have k5 := Blk.new' W 69 #[.int .i64 (a : Int), .int .i64 (LN : Int), .string ⟨#[]⟩, .int .i64 0, .int .i64 0]
      have hc6V := (hB6.cell (p := ⟨b, o6, none⟩) hblt).trans hc6
      go_wp2_with (first
        | (go_at_call 65; refine (number_any _ 2 _ _ _ hI2W (by omega)).mono ?_; rintro e5 w5 ⟨rfl, hw5⟩; subst hw5; rw [HLE.out])
        | (refine wpList_store_blk rfl 69 (.tmp 4) (.tmp 38) rfl _ 0 [.int .i64 0, .int .i64 0, .string ⟨#[]⟩, .int .i64 0, .int .i64 0] rfl rfl k4 (by simp) (by kernel_rfl) (by simp [Value.oneCell']) ?_; intro w7 h7 ht7; replace h7 : Blk w7 _ 69 [.int .i64 0, .int .i64 0, .string ⟨#[]⟩, .int .i64 0, .int .i64 0] := h7))
      have hG4 : w.heap.size < w5.heap.size := z4W.lt
      generalize hV : World.alloc w5 _ = V at hB6 k4 k5 hc6V ⊢
      generalize w5.heap.size = G8 at hG4 k5 ⊢
      clear hV hI2W hc6W hZW z4W hszW
      have hBd := hB6.drew
      have hwk : IntKind.i64.wrap (KD : Int) = (KD : Int) := wrap_small _ (by omega) (by omega)
      have hbG : b < G8 := by omega
      refine wp_region_noPanic ?_
      refine wp_region_held_drew (S := fun X => In X (some ⟨b, o8, none⟩) K c8 (List.take K L8) ∧ X.cell? ⟨b, o7, none⟩ = some (.int .u8 (KD : Int)) ∧ In X (some ⟨b, o1, none⟩) 4 c1 L4) (by kernel_rfl) ⟨hI8.below hBd, (hBd.cell (p := ⟨b, o7, none⟩) hblt).trans hc7, hI4.below hBd⟩ (fun hHeld => ?_)
      refine wpAnyH_take (i := 0) (v := ?_) rfl (by kernel_rfl) (by kernel_rfl) (by kernel_rfl) (fun _ _ _ h => h) (Or.inl ⟨by rfl, ?_⟩) hHeld ?_
      rotate_left
      · intro w' hSw; try dsimp only at hSw
        go_simp; try (with_reducible rfl)
      try simp only [Act.put, List.getElem_toArray, List.getElem_cons_succ, List.getElem_cons_zero, List.setIfInBounds_toArray, List.set_cons_zero, List.set_cons_succ]
      refine wpAnyH_take (i := 1) (v := ?_) rfl (by kernel_rfl) (by kernel_rfl) (by kernel_rfl) (fun _ _ _ h => h) (Or.inl ⟨by rfl, ?_⟩) hHeld ?_
      rotate_left
      · intro w' hSw; try dsimp only at hSw
        go_simp; try (with_reducible rfl)
      try simp only [Act.put, List.getElem_toArray, List.getElem_cons_succ, List.getElem_cons_zero, List.setIfInBounds_toArray, List.set_cons_zero, List.set_cons_succ]
      refine wpAnyH_take (i := 2) (v := ?_) rfl (by kernel_rfl) (by kernel_rfl) (by kernel_rfl) (fun _ _ _ h => h) (Or.inl ⟨by rfl, ?_⟩) hHeld ?_
      rotate_left
      · intro w' hSw; try dsimp only at hSw
        go_simp; try (with_reducible rfl)
      try simp only [Act.put, List.getElem_toArray, List.getElem_cons_succ, List.getElem_cons_zero, List.setIfInBounds_toArray, List.set_cons_zero, List.set_cons_succ]
      refine wpAnyH_take (i := 3) (v := ?_) rfl (by kernel_rfl) (by kernel_rfl) (by kernel_rfl) (fun _ _ _ h => h) (Or.inl ⟨by rfl, ?_⟩) hHeld ?_
      rotate_left
      · intro w' hSw; try dsimp only at hSw
        obtain ⟨hs1, hs2, hs3⟩ := hSw
        have hcv := conv_nm hs1
        rw [← HNM.out] at hcv
        go_simp; try (with_reducible rfl)
      try simp only [Act.put, List.getElem_toArray, List.getElem_cons_succ, List.getElem_cons_zero, List.setIfInBounds_toArray, List.set_cons_zero, List.set_cons_succ]
      refine wpAnyH_take (i := 4) (v := ?_) rfl (by kernel_rfl) (by kernel_rfl) (by kernel_rfl) (fun _ _ _ h => h) (Or.inl ⟨by rfl, ?_⟩) hHeld ?_
      rotate_left
      · intro w' hSw; try dsimp only at hSw
        go_simp; try (with_reducible rfl)
      try simp only [Act.put, List.getElem_toArray, List.getElem_cons_succ, List.getElem_cons_zero, List.setIfInBounds_toArray, List.set_cons_zero, List.set_cons_succ]
      refine wpAnyH_take (i := 5) (v := ?_) rfl (by kernel_rfl) (by kernel_rfl) (by kernel_rfl) (fun _ _ _ h => h) (Or.inl ⟨by rfl, ?_⟩) hHeld ?_
      rotate_left
      · intro w' hSw; try dsimp only at hSw
        go_simp; try (with_reducible rfl)
      try simp only [Act.put, List.getElem_toArray, List.getElem_cons_succ, List.getElem_cons_zero, List.setIfInBounds_toArray, List.set_cons_zero, List.set_cons_succ]
      refine wpAnyH_take (i := 7) (v := ?_) rfl (by kernel_rfl) (by kernel_rfl) (by kernel_rfl) (fun _ _ _ h => h) (Or.inl ⟨by rfl, ?_⟩) hHeld ?_
      rotate_left
      · intro w' hSw; try dsimp only at hSw
        go_simp; try (with_reducible rfl)
      try simp only [Act.put, List.getElem_toArray, List.getElem_cons_succ, List.getElem_cons_zero, List.setIfInBounds_toArray, List.set_cons_zero, List.set_cons_succ]
      refine wpAnyH_take (i := 8) (v := ?_) rfl (by kernel_rfl) (by kernel_rfl) (by kernel_rfl) (fun _ _ _ h => h) (Or.inl ⟨by rfl, ?_⟩) hHeld ?_
      rotate_left
      · intro w' hSw; try dsimp only at hSw
        go_simp; try (with_reducible rfl)
      try simp only [Act.put, List.getElem_toArray, List.getElem_cons_succ, List.getElem_cons_zero, List.setIfInBounds_toArray, List.set_cons_zero, List.set_cons_succ]
      refine wpAnyH_take (i := 9) (v := ?_) rfl (by kernel_rfl) (by kernel_rfl) (by kernel_rfl) (fun _ _ _ h => h) (Or.inl ⟨by rfl, ?_⟩) hHeld ?_
      rotate_left
      · intro w' hSw; try dsimp only at hSw
        obtain ⟨hs1, hs2, hs3⟩ := hSw
        go_simp; try (with_reducible rfl)
      try simp only [Act.put, List.getElem_toArray, List.getElem_cons_succ, List.getElem_cons_zero, List.setIfInBounds_toArray, List.set_cons_zero, List.set_cons_succ]
      refine wpAnyH_take (i := 10) (v := ?_) rfl (by kernel_rfl) (by kernel_rfl) (by kernel_rfl) (fun _ _ _ h => h) (Or.inl ⟨by rfl, ?_⟩) hHeld ?_
      rotate_left
      · intro w' hSw; try dsimp only at hSw
        go_simp; try (with_reducible rfl)
      try simp only [Act.put, List.getElem_toArray, List.getElem_cons_succ, List.getElem_cons_zero, List.setIfInBounds_toArray, List.set_cons_zero, List.set_cons_succ]
      refine wpAnyH_ready (rs := [6]) (by kernel_rfl) (by simp) ?_
      refine AllReadyH.cons rfl (fun K hK => ?_) AllReadyH.nil
      go_simp
      refine (number_any _ 4 _ _ _ hHeld.2.2 (by omega)).mono ?_
      rintro e6 w6 ⟨rfl, hw6⟩
      subst hw6
      rw [HIE.out]
      refine hK.out _ _ hHeld (fun hHeld => ?_)
      clear hK K
      try simp only [Act.put, List.getElem_toArray, List.getElem_cons_succ, List.getElem_cons_zero, List.setIfInBounds_toArray, List.set_cons_zero, List.set_cons_succ]
      refine wpAnyH_take (i := 11) (v := ?_) rfl (by kernel_rfl) (by kernel_rfl) (by kernel_rfl) (fun _ _ _ h => h) (Or.inl ⟨by rfl, ?_⟩) hHeld ?_
      rotate_left
      · intro w' hSw; try dsimp only at hSw
        go_simp; try (with_reducible rfl)
      try simp only [Act.put, List.getElem_toArray, List.getElem_cons_succ, List.getElem_cons_zero, List.setIfInBounds_toArray, List.set_cons_zero, List.set_cons_succ]
      refine wpAnyH_take (i := 12) (v := ?_) rfl (by kernel_rfl) (by kernel_rfl) (by kernel_rfl) (fun _ _ _ h => h) (Or.inl ⟨by rfl, ?_⟩) hHeld ?_
      rotate_left
      · intro w' hSw; try dsimp only at hSw
        go_simp; try (with_reducible rfl)
      try simp only [Act.put, List.getElem_toArray, List.getElem_cons_succ, List.getElem_cons_zero, List.setIfInBounds_toArray, List.set_cons_zero, List.set_cons_succ]
      refine wpAnyH_ready (rs := [13]) (by kernel_rfl) (by simp) ?_
      refine AllReadyH.cons rfl (fun K hK => ?_) AllReadyH.nil
      rw [if_pos (by rfl)]
      refine wp_store_blk 24 (.tmp 51) (.tmp 50) rfl _ 2 [.string ⟨NM.toArray⟩, .int .i64 (IN : Int), .int .i64 (KD : Int)] rfl rfl k5.drew (by simp) (by kernel_rfl) (by simp [Value.oneCell']) ?_
      intro w9 h9 ht9
      replace h9 : Blk w9 _ 69 [.int .i64 (a : Int), .int .i64 (LN : Int), .string ⟨NM.toArray⟩, .int .i64 (IN : Int), .int .i64 (KD : Int)] := h9
      have hn9 : ∀ q : Addr, q.block = b → q.block ≠ G8 := fun q hq => by rw [hq]; omega
      refine hK.out _ _ ⟨hHeld.1.turned ht9 (fun q hq => hn9 q (by cases hq; rfl)), (ht9.cell (a := ⟨b, o7, none⟩) (hn9 _ rfl)).trans hHeld.2.1, hHeld.2.2.turned ht9 (fun q hq => hn9 q (by cases hq; rfl))⟩ (fun hHeld => ?_)
      clear hK K
      try simp only [Act.put, List.getElem_toArray, List.getElem_cons_succ, List.getElem_cons_zero, List.setIfInBounds_toArray, List.set_cons_zero, List.set_cons_succ]
      refine wpAnyH_done (by kernel_rfl) ?_ _
      refine NoPanic.normal ?_
      have k49 := k4.drew.turned ht9 (by omega)
      have hB9 : Below w.heap.size w w9 := ht9.below hBd (by omega)
      clear hHeld k4 k5 ht9 hB6 hBd hc6V hI2 hI4 hI8 hI8' hx hc6 hc7 hsl0 hsl4 hsl6 hsl8 hslK hn9 hwk
      have c91 := h9.cell' (i := 1) (v := .int .i64 (LN : Int)) rfl
      have c92 := h9.cell' (i := 2) (v := .string ⟨NM.toArray⟩) rfl
      have hned := fun W => need_any NM W (by rw [HNL.out]; omega)
      by_cases h1 : (LN : Int) % 4 = 0
      · have hm : ((LN : Int) % 4 != 0) = false := by rw [bne_eq_false_iff_eq]; exact h1
        by_cases h2 : (LN : Int) < needE NM
        · have HR : Hid (RA = none) := HRb.out (.inr (.inl h2))
          have hd2 : decide ((LN : Int) < needE NM) = true := decide_eq_true h2
          clear h1 h2
          go_wp2
          go_quiet ((go_at_call 49; exact Calls.quiet_of_same (hned _)))
          generalize hW : World.drewN _ nq = W
          have k4W : Blk W w.heap.size 69 [.int .i64 0, .int .i64 0, .string ⟨#[]⟩, .int .i64 0, .int .i64 0] := by rw [← hW]; exact k49.drewN nq
          have hBW : Below w.heap.size w W := by rw [← hW]; exact below_drewN hB9 nq
          go_wp2_with (refine wpList_store_blk rfl 69 (.tmp 4) (.tmp 74) rfl _ 0 [.int .i64 0, .int .i64 0, .string ⟨#[]⟩, .int .i64 0, .int .i64 0] rfl rfl k4W (by simp) (by kernel_rfl) (by simp [Value.oneCell']) ?_; intro w10 h10 ht10; replace h10 : Blk w10 _ 69 [.int .i64 0, .int .i64 0, .string ⟨#[]⟩, .int .i64 0, .int .i64 0] := h10)
          refine ret_recV rfl rfl h10 rfl rfl ?_
          exact ⟨rc0, false, rfl, HR.out, ht10.below hBW (Nat.le_refl _)⟩
        · by_cases h3 : 256 - (a : Int) < (LN : Int)
          · have HR : Hid (RA = none) := HRb.out (.inr (.inr h3))
            have hd2 : decide ((LN : Int) < needE NM) = false := decide_eq_false h2
            have hd3 : decide (256 - (a : Int) < (LN : Int)) = true := decide_eq_true h3
            clear h1 h2 h3
            go_wp2
            go_quiet ((go_at_call 49; exact Calls.quiet_of_same (hned _)))
            generalize hW : World.drewN _ nq = W
            have k4W : Blk W w.heap.size 69 [.int .i64 0, .int .i64 0, .string ⟨#[]⟩, .int .i64 0, .int .i64 0] := by rw [← hW]; exact k49.drewN nq
            have hBW : Below w.heap.size w W := by rw [← hW]; exact below_drewN hB9 nq
            go_wp2_with (refine wpList_store_blk rfl 69 (.tmp 4) (.tmp 74) rfl _ 0 [.int .i64 0, .int .i64 0, .string ⟨#[]⟩, .int .i64 0, .int .i64 0] rfl rfl k4W (by simp) (by kernel_rfl) (by simp [Value.oneCell']) ?_; intro w10 h10 ht10; replace h10 : Blk w10 _ 69 [.int .i64 0, .int .i64 0, .string ⟨#[]⟩, .int .i64 0, .int .i64 0] := h10)
            refine ret_recV rfl rfl h10 rfl rfl ?_
            exact ⟨rc0, false, rfl, HR.out, ht10.below hBW (Nat.le_refl _)⟩
          · have HR : Hid (RA = _) := HRo.out hkn (fun h => by rcases h with h | h | h; exact h h1; exact h2 h; exact h3 h)
            have hd2 : decide ((LN : Int) < needE NM) = false := decide_eq_false h2
            have hd3 : decide (256 - (a : Int) < (LN : Int)) = false := decide_eq_false h3
            clear h1 h2 h3
            go_wp2
            go_quiet ((go_at_call 49; exact Calls.quiet_of_same (hned _)))
            generalize hW : World.drewN _ nq = W
            have k4W : Blk W w.heap.size 69 [.int .i64 0, .int .i64 0, .string ⟨#[]⟩, .int .i64 0, .int .i64 0] := by rw [← hW]; exact k49.drewN nq
            have hBW : Below w.heap.size w W := by rw [← hW]; exact below_drewN hB9 nq
            have k8W : Blk W G8 69 [.int .i64 (a : Int), .int .i64 (LN : Int), .string ⟨NM.toArray⟩, .int .i64 (IN : Int), .int .i64 (KD : Int)] := by rw [← hW]; exact h9.drewN nq
            clear hW h9 k49 hB9 c91 c92 hned hd2 hd3 hm
            have d0 := k8W.cell' (i := 0) rfl
            have d1 := k8W.cell' (i := 1) rfl
            have d2 := k8W.cell' (i := 2) rfl
            have d3 := k8W.cell' (i := 3) rfl
            have d4 := k8W.cell' (i := 4) rfl
            have hhas : ∀ v, Rc.has ⟨(a : Int), (LN : Int), NM, (IN : Int), (KD : Int)⟩ = v → ∀ W, Calls Try.prog 45 #[.agg #[.int .i64 (a : Int), .int .i64 (LN : Int), .string ⟨NM.toArray⟩, .int .i64 (IN : Int), .int .i64 (KD : Int)]] W fun e w' => e = .returned (.bool v) ∧ Below W.heap.size W w' := fun v hv W => by rw [← hv]; exact has_any ⟨(a : Int), (LN : Int), NM, (IN : Int), (KD : Int)⟩ W
            have hsz4 := k4W.lt
            have hsz8 := k8W.lt
            cases hI : ((IN : Int) != 0) with
            | false =>
              have hh : Rc.has ⟨(a : Int), (LN : Int), NM, (IN : Int), (KD : Int)⟩ = false := hI
              rw [hh] at HR
              have hhas := hhas _ hh
              have HI0 : Hid ((IN : Int) = 0) := by show _ = _; rw [bne_eq_false_iff_eq] at hI; exact hI
              clear hh hI
              by_cases z1 : NM = []
              · by_cases z2 : KD = 0
                · have HR2 : Hid (RA = some ⟨(a : Int), (LN : Int), NM, (IN : Int), (KD : Int)⟩) := by show _ = _; rw [HR.out]; simp [z1, z2]
                  have HZ1 : Hid (NM = []) := z1
                  have HZ2 : Hid (KD = 0) := z2
                  clear z1 z2
                  go_wp2_with (go_at_call 45; refine (hhas _).mono ?_; rintro e11 w11 ⟨rfl, hb11⟩)
                  have k4X := k4W.kept hb11
                  have k8X := k8W.kept hb11
                  have hBX := hBW.trans (hb11.mono hBW.size)
                  clear d0 d1 d2 d3 d4 k4W k8W hhas hb11 hBW
                  go_wp2
                  refine wp_region_noPanic ?_
                  refine wp_region_held_drew (S := fun X => Blk X G8 69 [.int .i64 (a : Int), .int .i64 (LN : Int), .string ⟨NM.toArray⟩, .int .i64 (IN : Int), .int .i64 (KD : Int)]) (by kernel_rfl) k8X.drew (fun hHeld => ?_)
                  refine wpAnyH_take (i := 0) (v := ?_) rfl (by kernel_rfl) (by kernel_rfl) (by kernel_rfl) (fun _ _ _ h => h) (Or.inl ⟨by rfl, ?_⟩) hHeld ?_
                  rotate_left
                  · intro w' hSw; try dsimp only at hSw
                    have d0 := hSw.cell' (i := 0) rfl
                    have d1 := hSw.cell' (i := 1) rfl
                    have d2 := hSw.cell' (i := 2) rfl
                    have d3 := hSw.cell' (i := 3) rfl
                    have d4 := hSw.cell' (i := 4) rfl
                    go_simp; try (with_reducible rfl)
                  try simp only [Act.put, List.getElem_toArray, List.getElem_cons_succ, List.getElem_cons_zero, List.setIfInBounds_toArray, List.set_cons_zero, List.set_cons_succ]
                  refine wpAnyH_take (i := 1) (v := ?_) rfl (by kernel_rfl) (by kernel_rfl) (by kernel_rfl) (fun _ _ _ h => h) (Or.inl ⟨by rfl, ?_⟩) hHeld ?_
                  rotate_left
                  · intro w' hSw; try dsimp only at hSw
                    go_simp; try (with_reducible rfl)
                  try simp only [Act.put, List.getElem_toArray, List.getElem_cons_succ, List.getElem_cons_zero, List.setIfInBounds_toArray, List.set_cons_zero, List.set_cons_succ]
                  refine wpAnyH_take (i := 2) (v := ?_) rfl (by kernel_rfl) (by kernel_rfl) (by kernel_rfl) (fun _ _ _ h => h) (Or.inl ⟨by rfl, ?_⟩) hHeld ?_
                  rotate_left
                  · intro w' hSw; try dsimp only at hSw
                    have d0 := hSw.cell' (i := 0) rfl
                    have d1 := hSw.cell' (i := 1) rfl
                    have d2 := hSw.cell' (i := 2) rfl
                    have d3 := hSw.cell' (i := 3) rfl
                    have d4 := hSw.cell' (i := 4) rfl
                    go_simp; try (with_reducible rfl)
                  try simp only [Act.put, List.getElem_toArray, List.getElem_cons_succ, List.getElem_cons_zero, List.setIfInBounds_toArray, List.set_cons_zero, List.set_cons_succ]
                  refine wpAnyH_take (i := 3) (v := ?_) rfl (by kernel_rfl) (by kernel_rfl) (by kernel_rfl) (fun _ _ _ h => h) (Or.inl ⟨by rfl, ?_⟩) hHeld ?_
                  rotate_left
                  · intro w' hSw; try dsimp only at hSw
                    go_simp; try (with_reducible rfl)
                  try simp only [Act.put, List.getElem_toArray, List.getElem_cons_succ, List.getElem_cons_zero, List.setIfInBounds_toArray, List.set_cons_zero, List.set_cons_succ]
                  refine wpAnyH_take (i := 4) (v := ?_) rfl (by kernel_rfl) (by kernel_rfl) (by kernel_rfl) (fun _ _ _ h => h) (Or.inl ⟨by rfl, ?_⟩) hHeld ?_
                  rotate_left
                  · intro w' hSw; try dsimp only at hSw
                    have z0 := HI0.out
                    have z1 := HZ1.out
                    have z2 := HZ2.out
                    go_simp; try (with_reducible rfl)
                  try simp only [Act.put, List.getElem_toArray, List.getElem_cons_succ, List.getElem_cons_zero, List.setIfInBounds_toArray, List.set_cons_zero, List.set_cons_succ]
                  refine wpAnyH_ready (rs := [5]) (by kernel_rfl) (by simp) ?_
                  refine AllReadyH.cons rfl (fun K hK => ?_) AllReadyH.nil
                  rw [if_pos (by rfl)]
                  refine wp_store_blk 69 (.tmp 4) (.tmp 78) rfl _ 0 [.int .i64 (a : Int), .int .i64 (LN : Int), .string ⟨NM.toArray⟩, .int .i64 (IN : Int), .int .i64 (KD : Int)] rfl rfl k4X.drew (by simp) (by kernel_rfl) (by simp [Value.oneCell']) ?_
                  intro w13 h13 ht13
                  replace h13 : Blk w13 _ 69 [.int .i64 (a : Int), .int .i64 (LN : Int), .string ⟨NM.toArray⟩, .int .i64 (IN : Int), .int .i64 (KD : Int)] := h13
                  refine hK.out _ _ (hHeld.turned ht13 (by omega)) (fun hHeld => ?_)
                  clear hK K
                  try simp only [Act.put, List.getElem_toArray, List.getElem_cons_succ, List.getElem_cons_zero, List.setIfInBounds_toArray, List.set_cons_zero, List.set_cons_succ]
                  refine wpAnyH_take (i := 6) (v := ?_) rfl (by kernel_rfl) (by kernel_rfl) (by kernel_rfl) (fun _ _ _ h => h) (Or.inl ⟨by rfl, ?_⟩) hHeld ?_
                  rotate_left
                  · intro w' hSw; try dsimp only at hSw
                    go_simp; try (with_reducible rfl)
                  try simp only [Act.put, List.getElem_toArray, List.getElem_cons_succ, List.getElem_cons_zero, List.setIfInBounds_toArray, List.set_cons_zero, List.set_cons_succ]
                  refine wpAnyH_done (by kernel_rfl) ?_ _
                  refine NoPanic.normal ?_
                  go_wp2
                  refine ret_recV rfl rfl h13 rfl rfl ?_
                  exact ⟨⟨(a : Int), (LN : Int), NM, (IN : Int), (KD : Int)⟩, true, rfl, HR2.out, ht13.below hBX.drew (Nat.le_refl _)⟩
                · have HR2 : Hid (RA = none) := by show _ = _; rw [HR.out]; simp [z1, z2]
                  have HZ1 : Hid (NM = []) := z1
                  have HZ2 : Hid (¬ KD = 0) := z2
                  clear z1 z2
                  go_wp2_with (go_at_call 45; refine (hhas _).mono ?_; rintro e11 w11 ⟨rfl, hb11⟩)
                  have k4X := k4W.kept hb11
                  have k8X := k8W.kept hb11
                  have hBX := hBW.trans (hb11.mono hBW.size)
                  clear d0 d1 d2 d3 d4 k4W k8W hhas hb11 hBW
                  go_wp2
                  refine wp_region_noPanic ?_
                  refine wp_region_held_drew (S := fun X => Blk X G8 69 [.int .i64 (a : Int), .int .i64 (LN : Int), .string ⟨NM.toArray⟩, .int .i64 (IN : Int), .int .i64 (KD : Int)]) (by kernel_rfl) k8X.drew (fun hHeld => ?_)
                  refine wpAnyH_take (i := 0) (v := ?_) rfl (by kernel_rfl) (by kernel_rfl) (by kernel_rfl) (fun _ _ _ h => h) (Or.inl ⟨by rfl, ?_⟩) hHeld ?_
                  rotate_left
                  · intro w' hSw; try dsimp only at hSw
                    have d0 := hSw.cell' (i := 0) rfl
                    have d1 := hSw.cell' (i := 1) rfl
                    have d2 := hSw.cell' (i := 2) rfl
                    have d3 := hSw.cell' (i := 3) rfl
                    have d4 := hSw.cell' (i := 4) rfl
                    go_simp; try (with_reducible rfl)
                  try simp only [Act.put, List.getElem_toArray, List.getElem_cons_succ, List.getElem_cons_zero, List.setIfInBounds_toArray, List.set_cons_zero, List.set_cons_succ]
                  refine wpAnyH_take (i := 1) (v := ?_) rfl (by kernel_rfl) (by kernel_rfl) (by kernel_rfl) (fun _ _ _ h => h) (Or.inl ⟨by rfl, ?_⟩) hHeld ?_
                  rotate_left
                  · intro w' hSw; try dsimp only at hSw
                    go_simp; try (with_reducible rfl)
                  try simp only [Act.put, List.getElem_toArray, List.getElem_cons_succ, List.getElem_cons_zero, List.setIfInBounds_toArray, List.set_cons_zero, List.set_cons_succ]
                  refine wpAnyH_take (i := 2) (v := ?_) rfl (by kernel_rfl) (by kernel_rfl) (by kernel_rfl) (fun _ _ _ h => h) (Or.inl ⟨by rfl, ?_⟩) hHeld ?_
                  rotate_left
                  · intro w' hSw; try dsimp only at hSw
                    have d0 := hSw.cell' (i := 0) rfl
                    have d1 := hSw.cell' (i := 1) rfl
                    have d2 := hSw.cell' (i := 2) rfl
                    have d3 := hSw.cell' (i := 3) rfl
                    have d4 := hSw.cell' (i := 4) rfl
                    go_simp; try (with_reducible rfl)
                  try simp only [Act.put, List.getElem_toArray, List.getElem_cons_succ, List.getElem_cons_zero, List.setIfInBounds_toArray, List.set_cons_zero, List.set_cons_succ]
                  refine wpAnyH_take (i := 3) (v := ?_) rfl (by kernel_rfl) (by kernel_rfl) (by kernel_rfl) (fun _ _ _ h => h) (Or.inl ⟨by rfl, ?_⟩) hHeld ?_
                  rotate_left
                  · intro w' hSw; try dsimp only at hSw
                    go_simp; try (with_reducible rfl)
                  try simp only [Act.put, List.getElem_toArray, List.getElem_cons_succ, List.getElem_cons_zero, List.setIfInBounds_toArray, List.set_cons_zero, List.set_cons_succ]
                  refine wpAnyH_take (i := 4) (v := ?_) rfl (by kernel_rfl) (by kernel_rfl) (by kernel_rfl) (fun _ _ _ h => h) (Or.inl ⟨by rfl, ?_⟩) hHeld ?_
                  rotate_left
                  · intro w' hSw; try dsimp only at hSw
                    have z0 := HI0.out
                    have z1 := HZ1.out
                    have z2 := HZ2.out
                    go_simp; try (with_reducible rfl)
                  try simp only [Act.put, List.getElem_toArray, List.getElem_cons_succ, List.getElem_cons_zero, List.setIfInBounds_toArray, List.set_cons_zero, List.set_cons_succ]
                  refine wpAnyH_ready (rs := [5]) (by kernel_rfl) (by simp) ?_
                  refine AllReadyH.cons rfl (fun K hK => ?_) AllReadyH.nil
                  rw [if_pos (by rfl)]
                  refine wp_store_blk 69 (.tmp 4) (.tmp 78) rfl _ 0 [.int .i64 (a : Int), .int .i64 (LN : Int), .string ⟨NM.toArray⟩, .int .i64 (IN : Int), .int .i64 (KD : Int)] rfl rfl k4X.drew (by simp) (by kernel_rfl) (by simp [Value.oneCell']) ?_
                  intro w13 h13 ht13
                  replace h13 : Blk w13 _ 69 [.int .i64 (a : Int), .int .i64 (LN : Int), .string ⟨NM.toArray⟩, .int .i64 (IN : Int), .int .i64 (KD : Int)] := h13
                  refine hK.out _ _ (hHeld.turned ht13 (by omega)) (fun hHeld => ?_)
                  clear hK K
                  try simp only [Act.put, List.getElem_toArray, List.getElem_cons_succ, List.getElem_cons_zero, List.setIfInBounds_toArray, List.set_cons_zero, List.set_cons_succ]
                  refine wpAnyH_take (i := 6) (v := ?_) rfl (by kernel_rfl) (by kernel_rfl) (by kernel_rfl) (fun _ _ _ h => h) (Or.inl ⟨by rfl, ?_⟩) hHeld ?_
                  rotate_left
                  · intro w' hSw; try dsimp only at hSw
                    go_simp; try (with_reducible rfl)
                  try simp only [Act.put, List.getElem_toArray, List.getElem_cons_succ, List.getElem_cons_zero, List.setIfInBounds_toArray, List.set_cons_zero, List.set_cons_succ]
                  refine wpAnyH_done (by kernel_rfl) ?_ _
                  refine NoPanic.normal ?_
                  go_wp2
                  refine ret_recV rfl rfl h13 rfl rfl ?_
                  exact ⟨⟨(a : Int), (LN : Int), NM, (IN : Int), (KD : Int)⟩, false, rfl, HR2.out, ht13.below hBX.drew (Nat.le_refl _)⟩
              · have HR2 : Hid (RA = none) := by show _ = _; rw [HR.out]; simp [z1]
                have HZ1 : Hid (¬ NM = []) := z1
                clear z1
                go_wp2_with (go_at_call 45; refine (hhas _).mono ?_; rintro e11 w11 ⟨rfl, hb11⟩)
                have k4X := k4W.kept hb11
                have k8X := k8W.kept hb11
                have hBX := hBW.trans (hb11.mono hBW.size)
                clear d0 d1 d2 d3 d4 k4W k8W hhas hb11 hBW
                go_wp2
                refine wp_region_noPanic ?_
                refine wp_region_held_drew (S := fun X => Blk X G8 69 [.int .i64 (a : Int), .int .i64 (LN : Int), .string ⟨NM.toArray⟩, .int .i64 (IN : Int), .int .i64 (KD : Int)]) (by kernel_rfl) k8X.drew (fun hHeld => ?_)
                refine wpAnyH_take (i := 0) (v := ?_) rfl (by kernel_rfl) (by kernel_rfl) (by kernel_rfl) (fun _ _ _ h => h) (Or.inl ⟨by rfl, ?_⟩) hHeld ?_
                rotate_left
                · intro w' hSw; try dsimp only at hSw
                  have d0 := hSw.cell' (i := 0) rfl
                  have d1 := hSw.cell' (i := 1) rfl
                  have d2 := hSw.cell' (i := 2) rfl
                  have d3 := hSw.cell' (i := 3) rfl
                  have d4 := hSw.cell' (i := 4) rfl
                  go_simp; try (with_reducible rfl)
                try simp only [Act.put, List.getElem_toArray, List.getElem_cons_succ, List.getElem_cons_zero, List.setIfInBounds_toArray, List.set_cons_zero, List.set_cons_succ]
                refine wpAnyH_take (i := 1) (v := ?_) rfl (by kernel_rfl) (by kernel_rfl) (by kernel_rfl) (fun _ _ _ h => h) (Or.inl ⟨by rfl, ?_⟩) hHeld ?_
                rotate_left
                · intro w' hSw; try dsimp only at hSw
                  go_simp; try (with_reducible rfl)
                try simp only [Act.put, List.getElem_toArray, List.getElem_cons_succ, List.getElem_cons_zero, List.setIfInBounds_toArray, List.set_cons_zero, List.set_cons_succ]
                refine wpAnyH_take (i := 2) (v := ?_) rfl (by kernel_rfl) (by kernel_rfl) (by kernel_rfl) (fun _ _ _ h => h) (Or.inl ⟨by rfl, ?_⟩) hHeld ?_
                rotate_left
                · intro w' hSw; try dsimp only at hSw
                  have d0 := hSw.cell' (i := 0) rfl
                  have d1 := hSw.cell' (i := 1) rfl
                  have d2 := hSw.cell' (i := 2) rfl
                  have d3 := hSw.cell' (i := 3) rfl
                  have d4 := hSw.cell' (i := 4) rfl
                  go_simp; try (with_reducible rfl)
                try simp only [Act.put, List.getElem_toArray, List.getElem_cons_succ, List.getElem_cons_zero, List.setIfInBounds_toArray, List.set_cons_zero, List.set_cons_succ]
                refine wpAnyH_take (i := 3) (v := ?_) rfl (by kernel_rfl) (by kernel_rfl) (by kernel_rfl) (fun _ _ _ h => h) (Or.inl ⟨by rfl, ?_⟩) hHeld ?_
                rotate_left
                · intro w' hSw; try dsimp only at hSw
                  go_simp; try (with_reducible rfl)
                try simp only [Act.put, List.getElem_toArray, List.getElem_cons_succ, List.getElem_cons_zero, List.setIfInBounds_toArray, List.set_cons_zero, List.set_cons_succ]
                refine wpAnyH_take (i := 4) (v := ?_) rfl (by kernel_rfl) (by kernel_rfl) (by kernel_rfl) (fun _ _ _ h => h) (Or.inl ⟨by rfl, ?_⟩) hHeld ?_
                rotate_left
                · intro w' hSw; try dsimp only at hSw
                  have z0 := HI0.out
                  have z1 := HZ1.out
                  go_simp; try (with_reducible rfl)
                try simp only [Act.put, List.getElem_toArray, List.getElem_cons_succ, List.getElem_cons_zero, List.setIfInBounds_toArray, List.set_cons_zero, List.set_cons_succ]
                refine wpAnyH_ready (rs := [5]) (by kernel_rfl) (by simp) ?_
                refine AllReadyH.cons rfl (fun K hK => ?_) AllReadyH.nil
                rw [if_pos (by rfl)]
                refine wp_store_blk 69 (.tmp 4) (.tmp 78) rfl _ 0 [.int .i64 (a : Int), .int .i64 (LN : Int), .string ⟨NM.toArray⟩, .int .i64 (IN : Int), .int .i64 (KD : Int)] rfl rfl k4X.drew (by simp) (by kernel_rfl) (by simp [Value.oneCell']) ?_
                intro w13 h13 ht13
                replace h13 : Blk w13 _ 69 [.int .i64 (a : Int), .int .i64 (LN : Int), .string ⟨NM.toArray⟩, .int .i64 (IN : Int), .int .i64 (KD : Int)] := h13
                refine hK.out _ _ (hHeld.turned ht13 (by omega)) (fun hHeld => ?_)
                clear hK K
                try simp only [Act.put, List.getElem_toArray, List.getElem_cons_succ, List.getElem_cons_zero, List.setIfInBounds_toArray, List.set_cons_zero, List.set_cons_succ]
                refine wpAnyH_take (i := 6) (v := ?_) rfl (by kernel_rfl) (by kernel_rfl) (by kernel_rfl) (fun _ _ _ h => h) (Or.inl ⟨by rfl, ?_⟩) hHeld ?_
                rotate_left
                · intro w' hSw; try dsimp only at hSw
                  go_simp; try (with_reducible rfl)
                try simp only [Act.put, List.getElem_toArray, List.getElem_cons_succ, List.getElem_cons_zero, List.setIfInBounds_toArray, List.set_cons_zero, List.set_cons_succ]
                refine wpAnyH_done (by kernel_rfl) ?_ _
                refine NoPanic.normal ?_
                go_wp2
                refine ret_recV rfl rfl h13 rfl rfl ?_
                exact ⟨⟨(a : Int), (LN : Int), NM, (IN : Int), (KD : Int)⟩, false, rfl, HR2.out, ht13.below hBX.drew (Nat.le_refl _)⟩
            | true =>
              have hh : Rc.has ⟨(a : Int), (LN : Int), NM, (IN : Int), (KD : Int)⟩ = true := hI
              rw [hh] at HR
              have hhas := hhas _ hh
              clear hh hI
              have HR2 : Hid (RA = if (chkE NM (IN : Int) (KD : Int) == 0) then some ⟨(a : Int), (LN : Int), NM, (IN : Int), (KD : Int)⟩ else none) := by
                show _ = _
                rw [HR.out]
                cases y1 : nmOk NM <;> cases y2 : inoOk (IN : Int) (KD : Int) <;> simp [chkE, y1, y2]
              go_wp2_with (go_at_call 45; refine (hhas _).mono ?_; rintro e11 w11 ⟨rfl, hb11⟩)
              have k4X := k4W.kept hb11
              have k8X := k8W.kept hb11
              have hBX := hBW.trans (hb11.mono hBW.size)
              clear d0 d1 d2 d3 d4 k4W k8W hhas hb11 hBW
              go_wp2
              refine wp_region_noPanic ?_
              refine wp_region_held_drew (S := fun X => Blk X G8 69 [.int .i64 (a : Int), .int .i64 (LN : Int), .string ⟨NM.toArray⟩, .int .i64 (IN : Int), .int .i64 (KD : Int)] ∧ Below w.heap.size w X) (by kernel_rfl) ⟨k8X.drew, hBX.drew⟩ (fun hHeld => ?_)
              refine wpAnyH_take (i := 0) (v := ?_) rfl (by kernel_rfl) (by kernel_rfl) (by kernel_rfl) (fun _ _ _ h => h) (Or.inl ⟨by rfl, ?_⟩) hHeld ?_
              rotate_left
              · intro w' hSw; try dsimp only at hSw
                obtain ⟨hSw, -⟩ := hSw
                have d0 := hSw.cell' (i := 0) rfl
                have d1 := hSw.cell' (i := 1) rfl
                have d2 := hSw.cell' (i := 2) rfl
                have d3 := hSw.cell' (i := 3) rfl
                have d4 := hSw.cell' (i := 4) rfl
                go_simp; try (with_reducible rfl)
              try simp only [Act.put, List.getElem_toArray, List.getElem_cons_succ, List.getElem_cons_zero, List.setIfInBounds_toArray, List.set_cons_zero, List.set_cons_succ]
              refine wpAnyH_take (i := 1) (v := ?_) rfl (by kernel_rfl) (by kernel_rfl) (by kernel_rfl) (fun _ _ _ h => h) (Or.inl ⟨by rfl, ?_⟩) hHeld ?_
              rotate_left
              · intro w' hSw; try dsimp only at hSw
                go_simp; try (with_reducible rfl)
              try simp only [Act.put, List.getElem_toArray, List.getElem_cons_succ, List.getElem_cons_zero, List.setIfInBounds_toArray, List.set_cons_zero, List.set_cons_succ]
              refine wpAnyH_take (i := 2) (v := ?_) rfl (by kernel_rfl) (by kernel_rfl) (by kernel_rfl) (fun _ _ _ h => h) (Or.inl ⟨by rfl, ?_⟩) hHeld ?_
              rotate_left
              · intro w' hSw; try dsimp only at hSw
                obtain ⟨hSw, -⟩ := hSw
                have d0 := hSw.cell' (i := 0) rfl
                have d1 := hSw.cell' (i := 1) rfl
                have d2 := hSw.cell' (i := 2) rfl
                have d3 := hSw.cell' (i := 3) rfl
                have d4 := hSw.cell' (i := 4) rfl
                go_simp; try (with_reducible rfl)
              try simp only [Act.put, List.getElem_toArray, List.getElem_cons_succ, List.getElem_cons_zero, List.setIfInBounds_toArray, List.set_cons_zero, List.set_cons_succ]
              refine wpAnyH_ready (rs := [3]) (by kernel_rfl) (by simp) ?_
              refine AllReadyH.cons rfl (fun K hK => ?_) AllReadyH.nil
              go_simp
              refine (check_any ⟨NM, (IN : Int), (KD : Int)⟩ _).mono ?_
              rintro e12 w12 ⟨rfl, hb12⟩
              have k4Y := k4X.drew.kept hb12
              refine hK.out _ _ ⟨hHeld.1.kept hb12, hHeld.2.trans (hb12.mono hHeld.2.size)⟩ (fun hHeld => ?_)
              clear hK K
              try simp only [Act.put, List.getElem_toArray, List.getElem_cons_succ, List.getElem_cons_zero, List.setIfInBounds_toArray, List.set_cons_zero, List.set_cons_succ]
              refine wpAnyH_take (i := 4) (v := ?_) rfl (by kernel_rfl) (by kernel_rfl) (by kernel_rfl) (fun _ _ _ h => h) (Or.inl ⟨by rfl, ?_⟩) hHeld ?_
              rotate_left
              · intro w' hSw; try dsimp only at hSw
                go_simp; try (with_reducible rfl)
              try simp only [Act.put, List.getElem_toArray, List.getElem_cons_succ, List.getElem_cons_zero, List.setIfInBounds_toArray, List.set_cons_zero, List.set_cons_succ]
              refine wpAnyH_ready (rs := [5]) (by kernel_rfl) (by simp) ?_
              refine AllReadyH.cons rfl (fun K hK => ?_) AllReadyH.nil
              rw [if_pos (by rfl)]
              refine wp_store_blk 69 (.tmp 4) (.tmp 83) rfl _ 0 [.int .i64 (a : Int), .int .i64 (LN : Int), .string ⟨NM.toArray⟩, .int .i64 (IN : Int), .int .i64 (KD : Int)] rfl rfl k4Y (by simp) (by kernel_rfl) (by simp [Value.oneCell']) ?_
              intro w13 h13 ht13
              replace h13 : Blk w13 _ 69 [.int .i64 (a : Int), .int .i64 (LN : Int), .string ⟨NM.toArray⟩, .int .i64 (IN : Int), .int .i64 (KD : Int)] := h13
              refine hK.out _ _ ⟨hHeld.1.turned ht13 (by omega), ht13.below hHeld.2 (Nat.le_refl _)⟩ (fun hHeld => ?_)
              clear hK K
              try simp only [Act.put, List.getElem_toArray, List.getElem_cons_succ, List.getElem_cons_zero, List.setIfInBounds_toArray, List.set_cons_zero, List.set_cons_succ]
              refine wpAnyH_take (i := 6) (v := ?_) rfl (by kernel_rfl) (by kernel_rfl) (by kernel_rfl) (fun _ _ _ h => h) (Or.inl ⟨by rfl, ?_⟩) hHeld ?_
              rotate_left
              · intro w' hSw; try dsimp only at hSw
                go_simp; try (with_reducible rfl)
              try simp only [Act.put, List.getElem_toArray, List.getElem_cons_succ, List.getElem_cons_zero, List.setIfInBounds_toArray, List.set_cons_zero, List.set_cons_succ]
              refine wpAnyH_done (by kernel_rfl) ?_ _
              refine NoPanic.normal ?_
              go_wp2
              refine ret_recV rfl rfl h13 rfl rfl ?_
              exact ⟨⟨(a : Int), (LN : Int), NM, (IN : Int), (KD : Int)⟩, chkE NM (IN : Int) (KD : Int) == 0, rfl, HR2.out, hHeld.2⟩
      · have hm : ((LN : Int) % 4 != 0) = true := by rw [bne_iff_ne]; exact h1
        have HR : Hid (RA = none) := HRb.out (.inl h1)
        clear h1
        go_wp2
        go_quiet ((go_at_call 49; exact Calls.quiet_of_same (hned _)))
        generalize hW : World.drewN _ nq = W
        have k4W : Blk W w.heap.size 69 [.int .i64 0, .int .i64 0, .string ⟨#[]⟩, .int .i64 0, .int .i64 0] := by rw [← hW]; exact k49.drewN nq
        have hBW : Below w.heap.size w W := by rw [← hW]; exact below_drewN hB9 nq
        go_wp2_with (refine wpList_store_blk rfl 69 (.tmp 4) (.tmp 74) rfl _ 0 [.int .i64 0, .int .i64 0, .string ⟨#[]⟩, .int .i64 0, .int .i64 0] rfl rfl k4W (by simp) (by kernel_rfl) (by simp [Value.oneCell']) ?_; intro w10 h10 ht10; replace h10 : Blk w10 _ 69 [.int .i64 0, .int .i64 0, .string ⟨#[]⟩, .int .i64 0, .int .i64 0] := h10)
        refine ret_recV rfl rfl h10 rfl rfl ?_
        exact ⟨rc0, false, rfl, HR.out, ht10.below hBW (Nat.le_refl _)⟩
end Go.Proofs.Ytikigfjdddgkpaa
