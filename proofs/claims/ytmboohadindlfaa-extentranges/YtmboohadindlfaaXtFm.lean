/-
  ExtentForm returns true.
-/
import Derived.Test.YtmboohadindlfaaXtG2
namespace Go.Proofs.Ytmboohadindlfaa
open Go.RowKit
theorem put_len {l : List Ext} {e : Ext} : (putL e l).length ≤ 2 * l.length + 1 := by
  unfold putL normR
  have h1 := normL_len (srt (normL (leftL e.lo (endI e) l) ++ [e]))
  have h2 := (srt_perm (normL (leftL e.lo (endI e) l) ++ [e])).length_eq
  have h3 := normL_len (leftL e.lo (endI e) l)
  have h4 := runsL_len 0 e.lo l
  have h5 := runsL_len (endI e) 65536 l
  unfold leftL at h1 h2 h3 ⊢
  rw [List.length_append] at h2 h3
  simp only [List.length_cons, List.length_nil] at h2
  omega
set_option linter.unusedSimpArgs false in
set_option linter.unusedVariables false in
set_option maxRecDepth 100000 in
set_option maxHeartbeats 4000000 in
theorem form_walk (p : Option Addr) (n c : Nat) (l : List Ext) (e : Ext) (tu : Nat) (htu : tu < 256) (w : World) (h : InE w p n c l) :
    Calls Try.prog 6 #[.slice p n c, e.val, .int .u8 (tu : Int)] w fun x w' => x = .returned (.bool true) ∧ Below w.heap.size w w' := by
  have HLN : Hid (l.length = n) := h.len
  have htu1 : (tu : Int) < 256 := by omega
  have hb0 := below_alloc w (.cells #[.int .i64 e.lo, .int .i64 e.ln, .int .i64 e.ph] 31)
  have k0 := Blk.new' w 31 #[.int .i64 e.lo, .int .i64 e.ln, .int .i64 e.ph]
  have hroom := h.room
  go_enter Try.func6, Try.ntmps6
  go_wp2_with fail
  refine (live_any _).mono ?_
  rintro e9 w1 ⟨rfl, hb1⟩
  have k1 := k0.kept hb1
  have b1 := bt hb0 hb1
  clear k0 hb0 hb1
  have hf := few_one w1.heap.size p n c (w1.alloc (.cells #[.slice p n c] 22)) ((Blk.new' w1 22 #[.slice p n c]).cell' (i := 0) rfl) hroom
  have k2 := k1.alloc (.cells #[.slice p n c] 22)
  have b2 := below_al b1 (.cells #[.slice p n c] 22)
  clear k1 b1
  by_cases h200 : n ≤ 200
  rotate_left
  · rw [decide_eq_false h200] at hf
    go_wp2_with fail
    refine hf.mono ?_
    rintro e9 w2 ⟨rfl, rfl⟩
    go_wp2
    go_ret
    exact ⟨rfl, b2⟩
  rw [decide_eq_true h200] at hf
  go_wp2_with fail
  refine hf.mono ?_
  rintro e9 w2 ⟨rfl, hw2⟩
  rw [← hw2] at k2 b2
  clear hw2 hf
  have c20 := k2.cell' (i := 0) rfl
  have c21 := k2.cell' (i := 1) rfl
  have c22 := k2.cell' (i := 2) rfl
  cases hc : chkB l with
  | false =>
    have hrk := fun W hW => rcheck_any p n c l W hW
    simp only [chkE_no hc] at hrk
    go_wp2_with fail
    refine (punch_no p n c l e.lo e.ln _ (h.below b2) hc).mono ?_
    rintro e9 w3 ⟨rfl, hb3⟩
    have b3 := bt b2 hb3
    have k3 := k2.kept hb3
    have c30 := k3.cell' (i := 0) rfl
    have c31 := k3.cell' (i := 1) rfl
    have c32 := k3.cell' (i := 2) rfl
    clear b2 hb3 k2 c20 c21 c22
    go_wp2_with fail
    refine (put_no p n c l e _ (h.below b3) (.inl hc)).mono ?_
    rintro e9 w4 ⟨rfl, hb4⟩
    have b4 := bt b3 hb4
    clear b3 hb4
    go_wp2_with fail
    refine (hrk _ (h.below b4)).mono ?_
    rintro e9 w5 ⟨rfl, hb5⟩
    have b5 := bt b4 hb5
    clear b4 hb5
    go_wp2
    go_ret
    exact ⟨rfl, b5⟩
  | true =>
    have hrk := fun W hW => rcheck_any p n c l W hW
    simp only [chkE_ok hc] at hrk
    by_cases hA : e.lo < 0 ∨ e.lo > 65536 ∨ e.ln < 0
    · have he : oneB e = false := by
        cases hq : oneB e with
        | false => rfl
        | true => rw [oneB_iff] at hq; omega
      go_wp2_with fail
      refine (punch_arg p n c l e.lo e.ln _ (h.below b2) hc hA).mono ?_
      rintro e9 w3 ⟨rfl, hb3⟩
      have b3 := bt b2 hb3
      have k3 := k2.kept hb3
      have c30 := k3.cell' (i := 0) rfl
      have c31 := k3.cell' (i := 1) rfl
      have c32 := k3.cell' (i := 2) rfl
      clear b2 hb3 k2 c20 c21 c22
      go_wp2_with fail
      refine (put_no p n c l e _ (h.below b3) (.inr he)).mono ?_
      rintro e9 w4 ⟨rfl, hb4⟩
      have b4 := bt b3 hb4
      clear b3 hb4
      go_wp2_with fail
      refine (hrk _ (h.below b4)).mono ?_
      rintro e9 w5 ⟨rfl, hb5⟩
      have b5 := bt b4 hb5
      clear b4 hb5
      go_wp2_with fail
      refine (long_any p n c l _ (h.below b5) hc).mono ?_
      rintro e9 w6 ⟨⟨bl, rfl⟩, hb6⟩
      have b6 := bt b5 hb6
      clear b5 hb6
      cases bl with
      | true =>
        go_wp2
        go_ret
        exact ⟨rfl, b6⟩
      | false =>
        go_wp2_with fail
        refine (cloneE_any p n c l _ (h.below b6) (by omega)).mono ?_
        rintro e9 w7 ⟨p9, c9, rfl, ho9, hb9⟩
        have b7 := bt b6 hb9
        have hsz9 := hb9.size
        have hs29 := b6.size
        clear b6
        rcases Nat.eq_zero_or_pos n with hz | hz
        · subst hz
          obtain ⟨pq, cq, hvq, hiq⟩ := in_of_ownsE ho9 (by omega)
          cases hvq
          have hNm := norm_ok _ _ _ _ _ hiq (by omega) (norm_rot hc (List.Perm.refl _)).1
          rw [(norm_rot hc (List.Perm.refl _)).2] at hNm
          clear ho9 hiq hb9
          go_wp2_with fail
          refine hNm.mono ?_
          rintro e9 w90 ⟨v90, rfl, ho90, hb90⟩
          have b90 := bt b7 hb90
          rw [HLN.out] at ho90
          obtain ⟨p90, c90, hv90, hi90⟩ := in_of_ownsE ho90 (by omega)
          subst hv90
          clear hNm ho90 hb90
          go_wp2_with fail
          refine (equalE_yes _ _ _ _ _ _ _ hi90 (h.below b90)).mono ?_
          rintro e9 w91 ⟨rfl, hb91⟩
          have b91 := bt b90 hb91
          clear b90 hb91 hi90
          go_wp2
          go_ret
          exact ⟨rfl, b91⟩
        · obtain ⟨k, Hk⟩ : ∃ k, k = tu % n := ⟨_, rfl⟩
          have hkn : k < n := by rw [Hk]; exact Nat.mod_lt _ (by omega)
          have htm : (tu : Int).tmod (n : Int) = (k : Int) := by rw [Hk]; rfl
          clear Hk
          have hki : (k : Int) < (n : Int) := by omega
          have hnz : ¬ (n : Int) = 0 := by omega
          have hnp : (n : Int) > 0 := by omega
          have htu2 : IntKind.i64.wrap (tu : Int) = (tu : Int) := by rw [IntKind.wrap_i64]; omega
          obtain ⟨gc, rfl, hgB, hnc, hcm, -⟩ := rowE_of_owns ho9 (by omega)
          have hsb := sliceE_back gc 0 n c9 k hkn hnc
          have hsf := sliceE_front (some ⟨gc, 0, none⟩) n c9 k (by omega) hnc
          rw [Nat.zero_add] at hsb
          go_upto_region 16 with fail
          refine wp_region_noPanic ?_
          refine wp_region_held_drew (S := fun _ => True) (by kernel_rfl) trivial (fun hHeld => ?_)
          refine wpAnyH_take (i := 0) (v := ?_) rfl (by kernel_rfl) (by kernel_rfl) (by kernel_rfl) (fun _ _ _ h => h) (Or.inl ⟨by rfl, ?_⟩) hHeld ?_
          rotate_left
          · intro w' hSw; try dsimp only at hSw
            go_simp; try (with_reducible rfl)
          try simp only [Act.put, List.getElem_toArray, List.getElem_cons_succ, List.getElem_cons_zero, List.setIfInBounds_toArray, List.set_cons_zero, List.set_cons_succ]
          refine wpAnyH_take (i := 1) (v := ?_) rfl (by kernel_rfl) (by kernel_rfl) (by kernel_rfl) (fun _ _ _ h => h) (Or.inl ⟨by rfl, ?_⟩) hHeld ?_
          rotate_left
          · intro w' hSw; try dsimp only at hSw
            go_simp; try (with_reducible rfl)
          try simp only [Act.put, List.getElem_toArray, List.getElem_cons_succ, List.getElem_cons_zero, List.setIfInBounds_toArray, List.set_cons_zero, List.set_cons_succ]
          refine wpAnyH_take (i := 2) (v := ?_) rfl (by kernel_rfl) (by kernel_rfl) (by kernel_rfl) (fun _ _ _ h => h) (Or.inl ⟨by rfl, ?_⟩) hHeld ?_
          rotate_left
          · intro w' hSw; try dsimp only at hSw
            go_simp; try (with_reducible rfl)
          try simp only [Act.put, List.getElem_toArray, List.getElem_cons_succ, List.getElem_cons_zero, List.setIfInBounds_toArray, List.set_cons_zero, List.set_cons_succ]
          refine wpAnyH_take (i := 3) (v := ?_) rfl (by kernel_rfl) (by kernel_rfl) (by kernel_rfl) (fun _ _ _ h => h) (Or.inl ⟨by rfl, ?_⟩) hHeld ?_
          rotate_left
          · intro w' hSw; try dsimp only at hSw
            go_simp; try (with_reducible rfl)
          try simp only [Act.put, List.getElem_toArray, List.getElem_cons_succ, List.getElem_cons_zero, List.setIfInBounds_toArray, List.set_cons_zero, List.set_cons_succ]
          refine wpAnyH_take (i := 4) (v := ?_) rfl (by kernel_rfl) (by kernel_rfl) (by kernel_rfl) (fun _ _ _ h => h) (Or.inl ⟨by rfl, ?_⟩) hHeld ?_
          rotate_left
          · intro w' hSw; try dsimp only at hSw
            go_simp; try (with_reducible rfl)
          try simp only [Act.put, List.getElem_toArray, List.getElem_cons_succ, List.getElem_cons_zero, List.setIfInBounds_toArray, List.set_cons_zero, List.set_cons_succ]
          refine wpAnyH_take (i := 5) (v := ?_) rfl (by kernel_rfl) (by kernel_rfl) (by kernel_rfl) (fun _ _ _ h => h) (Or.inl ⟨by rfl, ?_⟩) hHeld ?_
          rotate_left
          · intro w' hSw; try dsimp only at hSw
            go_simp; try (with_reducible rfl)
          try simp only [Act.put, List.getElem_toArray, List.getElem_cons_succ, List.getElem_cons_zero, List.setIfInBounds_toArray, List.set_cons_zero, List.set_cons_succ]
          refine wpAnyH_ready (rs := [6]) (by kernel_rfl) (by simp) ?_
          refine AllReadyH.cons rfl (fun K hK => ?_) AllReadyH.nil
          rw [if_pos (by rfl)]
          refine wp_append_rot (.tmp 73) (.tmp 76) rfl w6.heap.size gc n c9 k l _ rfl rfl (owns_below ho9 (Below.refl _ _).drew) hkn (by omega) (show w6.heap.size ≤ w7.drew.heap.size from hsz9) ?_
          intro g' o' c' WA hR hnc' hcm' hgB' hba
          refine hK.out _ _ trivial (fun hHeld => ?_)
          clear hK K
          try simp only [Act.put, List.getElem_toArray, List.getElem_cons_succ, List.getElem_cons_zero, List.setIfInBounds_toArray, List.set_cons_zero, List.set_cons_succ]
          refine wpAnyH_take (i := 7) (v := ?_) rfl (by kernel_rfl) (by kernel_rfl) (by kernel_rfl) (fun _ _ _ h => h) (Or.inl ⟨by rfl, ?_⟩) hHeld ?_
          rotate_left
          · intro w' hSw; try dsimp only at hSw
            go_simp; try (with_reducible rfl)
          try simp only [Act.put, List.getElem_toArray, List.getElem_cons_succ, List.getElem_cons_zero, List.setIfInBounds_toArray, List.set_cons_zero, List.set_cons_succ]
          refine wpAnyH_done (by kernel_rfl) ?_ _
          refine NoPanic.normal ?_
          clear hHeld hsb hsf ho9
          have hpm : (l.drop k ++ l.take k).Perm l := List.perm_append_comm.trans (by rw [List.take_append_drop])
          have hlm : (l.drop k ++ l.take k).length = n := by rw [hpm.length_eq]; exact h.len
          have hiq := hR.inE hlm hnc' hcm' (by omega)
          have hbA : Below w.heap.size w WA := b7.drew.trans (hba.mono hs29)
          have hNm := norm_ok _ _ _ _ _ hiq (by omega) (norm_rot hc hpm).1
          rw [(norm_rot hc hpm).2] at hNm
          clear hR hiq hpm hlm hba
          go_wp2_with fail
          refine hNm.mono ?_
          rintro e9 w90 ⟨v90, rfl, ho90, hb90⟩
          have b90 := bt hbA hb90
          rw [HLN.out] at ho90
          obtain ⟨p90, c90, hv90, hi90⟩ := in_of_ownsE ho90 (by omega)
          subst hv90
          clear hNm ho90 hb90
          go_wp2_with fail
          refine (equalE_yes _ _ _ _ _ _ _ hi90 (h.below b90)).mono ?_
          rintro e9 w91 ⟨rfl, hb91⟩
          have b91 := bt b90 hb91
          clear b90 hb91 hi90
          go_wp2
          go_ret
          exact ⟨rfl, b91⟩
    · have hchk := norm_chk ((chkB_ord hc).left (f := e.lo) (t := toI e.lo e.ln) (by unfold toI; omega))
      have hpl := normL_len (leftL e.lo (toI e.lo e.ln) l)
      have hq1 := runsL_len 0 e.lo l
      have hq2 := runsL_len (toI e.lo e.ln) 65536 l
      have hpl2 : (normL (leftL e.lo (toI e.lo e.ln) l)).length ≤ 1000000 := by unfold leftL at *; rw [List.length_append] at hpl; have := h.len; omega
      clear hpl hq1 hq2
      go_wp2_with fail
      refine (punch_ok p n c l e.lo e.ln _ (h.below b2) (by omega) hc (by omega) (by omega) (by omega)).mono ?_
      rintro e9 w3 ⟨v1, v2, rfl, ho1, ho2, -, hb3⟩
      have b3 := bt b2 hb3
      have k3 := k2.kept hb3
      have c30 := k3.cell' (i := 0) rfl
      have c31 := k3.cell' (i := 1) rfl
      have c32 := k3.cell' (i := 2) rfl
      obtain ⟨p1, q1, hv1, hi1⟩ := in_of_ownsE ho1 (by omega)
      subst hv1
      have hrc1 := rcheck_any _ _ _ _ _ hi1
      rw [chkE_ok hchk] at hrc1
      obtain ⟨T1, hT1⟩ : ∃ T1, (normL (leftL e.lo (toI e.lo e.ln) l)).length = T1 := ⟨_, rfl⟩
      rw [hT1] at hrc1 ⊢
      clear hT1 ho1 ho2 hi1 hchk hpl2
      clear b2 hb3 k2 c20 c21 c22
      go_wp2_with fail
      refine (hrc1).mono ?_
      rintro e9 w4 ⟨rfl, hb4⟩
      have b4 := bt b3 hb4
      have k4 := k3.kept hb4
      have c40 := k4.cell' (i := 0) rfl
      have c41 := k4.cell' (i := 1) rfl
      have c42 := k4.cell' (i := 2) rfl
      clear b3 hb4 k3 c30 c31 c32
      cases he : oneB e with
      | false =>
        go_wp2_with fail
        refine (put_no p n c l e _ (h.below b4) (.inr he)).mono ?_
        rintro e9 w5 ⟨rfl, hb5⟩
        have b5 := bt b4 hb5
        clear b4 hb5
        go_wp2_with fail
        refine (hrk _ (h.below b5)).mono ?_
        rintro e9 w6 ⟨rfl, hb6⟩
        have b6 := bt b5 hb6
        clear b5 hb6
        go_wp2_with fail
        refine (long_any p n c l _ (h.below b6) hc).mono ?_
        rintro e9 w7 ⟨⟨bl, rfl⟩, hb7⟩
        have b7 := bt b6 hb7
        clear b6 hb7
        cases bl with
        | true =>
          go_wp2
          go_ret
          exact ⟨rfl, b7⟩
        | false =>
          go_wp2_with fail
          refine (cloneE_any p n c l _ (h.below b7) (by omega)).mono ?_
          rintro e9 w8 ⟨p9, c9, rfl, ho9, hb9⟩
          have b8 := bt b7 hb9
          have hsz9 := hb9.size
          have hs29 := b7.size
          clear b7
          rcases Nat.eq_zero_or_pos n with hz | hz
          · subst hz
            obtain ⟨pq, cq, hvq, hiq⟩ := in_of_ownsE ho9 (by omega)
            cases hvq
            have hNm := norm_ok _ _ _ _ _ hiq (by omega) (norm_rot hc (List.Perm.refl _)).1
            rw [(norm_rot hc (List.Perm.refl _)).2] at hNm
            clear ho9 hiq hb9
            go_wp2_with fail
            refine hNm.mono ?_
            rintro e9 w90 ⟨v90, rfl, ho90, hb90⟩
            have b90 := bt b8 hb90
            rw [HLN.out] at ho90
            obtain ⟨p90, c90, hv90, hi90⟩ := in_of_ownsE ho90 (by omega)
            subst hv90
            clear hNm ho90 hb90
            go_wp2_with fail
            refine (equalE_yes _ _ _ _ _ _ _ hi90 (h.below b90)).mono ?_
            rintro e9 w91 ⟨rfl, hb91⟩
            have b91 := bt b90 hb91
            clear b90 hb91 hi90
            go_wp2
            go_ret
            exact ⟨rfl, b91⟩
          · obtain ⟨k, Hk⟩ : ∃ k, k = tu % n := ⟨_, rfl⟩
            have hkn : k < n := by rw [Hk]; exact Nat.mod_lt _ (by omega)
            have htm : (tu : Int).tmod (n : Int) = (k : Int) := by rw [Hk]; rfl
            clear Hk
            have hki : (k : Int) < (n : Int) := by omega
            have hnz : ¬ (n : Int) = 0 := by omega
            have hnp : (n : Int) > 0 := by omega
            have htu2 : IntKind.i64.wrap (tu : Int) = (tu : Int) := by rw [IntKind.wrap_i64]; omega
            obtain ⟨gc, rfl, hgB, hnc, hcm, -⟩ := rowE_of_owns ho9 (by omega)
            have hsb := sliceE_back gc 0 n c9 k hkn hnc
            have hsf := sliceE_front (some ⟨gc, 0, none⟩) n c9 k (by omega) hnc
            rw [Nat.zero_add] at hsb
            go_upto_region 16 with fail
            refine wp_region_noPanic ?_
            refine wp_region_held_drew (S := fun _ => True) (by kernel_rfl) trivial (fun hHeld => ?_)
            refine wpAnyH_take (i := 0) (v := ?_) rfl (by kernel_rfl) (by kernel_rfl) (by kernel_rfl) (fun _ _ _ h => h) (Or.inl ⟨by rfl, ?_⟩) hHeld ?_
            rotate_left
            · intro w' hSw; try dsimp only at hSw
              go_simp; try (with_reducible rfl)
            try simp only [Act.put, List.getElem_toArray, List.getElem_cons_succ, List.getElem_cons_zero, List.setIfInBounds_toArray, List.set_cons_zero, List.set_cons_succ]
            refine wpAnyH_take (i := 1) (v := ?_) rfl (by kernel_rfl) (by kernel_rfl) (by kernel_rfl) (fun _ _ _ h => h) (Or.inl ⟨by rfl, ?_⟩) hHeld ?_
            rotate_left
            · intro w' hSw; try dsimp only at hSw
              go_simp; try (with_reducible rfl)
            try simp only [Act.put, List.getElem_toArray, List.getElem_cons_succ, List.getElem_cons_zero, List.setIfInBounds_toArray, List.set_cons_zero, List.set_cons_succ]
            refine wpAnyH_take (i := 2) (v := ?_) rfl (by kernel_rfl) (by kernel_rfl) (by kernel_rfl) (fun _ _ _ h => h) (Or.inl ⟨by rfl, ?_⟩) hHeld ?_
            rotate_left
            · intro w' hSw; try dsimp only at hSw
              go_simp; try (with_reducible rfl)
            try simp only [Act.put, List.getElem_toArray, List.getElem_cons_succ, List.getElem_cons_zero, List.setIfInBounds_toArray, List.set_cons_zero, List.set_cons_succ]
            refine wpAnyH_take (i := 3) (v := ?_) rfl (by kernel_rfl) (by kernel_rfl) (by kernel_rfl) (fun _ _ _ h => h) (Or.inl ⟨by rfl, ?_⟩) hHeld ?_
            rotate_left
            · intro w' hSw; try dsimp only at hSw
              go_simp; try (with_reducible rfl)
            try simp only [Act.put, List.getElem_toArray, List.getElem_cons_succ, List.getElem_cons_zero, List.setIfInBounds_toArray, List.set_cons_zero, List.set_cons_succ]
            refine wpAnyH_take (i := 4) (v := ?_) rfl (by kernel_rfl) (by kernel_rfl) (by kernel_rfl) (fun _ _ _ h => h) (Or.inl ⟨by rfl, ?_⟩) hHeld ?_
            rotate_left
            · intro w' hSw; try dsimp only at hSw
              go_simp; try (with_reducible rfl)
            try simp only [Act.put, List.getElem_toArray, List.getElem_cons_succ, List.getElem_cons_zero, List.setIfInBounds_toArray, List.set_cons_zero, List.set_cons_succ]
            refine wpAnyH_take (i := 5) (v := ?_) rfl (by kernel_rfl) (by kernel_rfl) (by kernel_rfl) (fun _ _ _ h => h) (Or.inl ⟨by rfl, ?_⟩) hHeld ?_
            rotate_left
            · intro w' hSw; try dsimp only at hSw
              go_simp; try (with_reducible rfl)
            try simp only [Act.put, List.getElem_toArray, List.getElem_cons_succ, List.getElem_cons_zero, List.setIfInBounds_toArray, List.set_cons_zero, List.set_cons_succ]
            refine wpAnyH_ready (rs := [6]) (by kernel_rfl) (by simp) ?_
            refine AllReadyH.cons rfl (fun K hK => ?_) AllReadyH.nil
            rw [if_pos (by rfl)]
            refine wp_append_rot (.tmp 73) (.tmp 76) rfl w7.heap.size gc n c9 k l _ rfl rfl (owns_below ho9 (Below.refl _ _).drew) hkn (by omega) (show w7.heap.size ≤ w8.drew.heap.size from hsz9) ?_
            intro g' o' c' WA hR hnc' hcm' hgB' hba
            refine hK.out _ _ trivial (fun hHeld => ?_)
            clear hK K
            try simp only [Act.put, List.getElem_toArray, List.getElem_cons_succ, List.getElem_cons_zero, List.setIfInBounds_toArray, List.set_cons_zero, List.set_cons_succ]
            refine wpAnyH_take (i := 7) (v := ?_) rfl (by kernel_rfl) (by kernel_rfl) (by kernel_rfl) (fun _ _ _ h => h) (Or.inl ⟨by rfl, ?_⟩) hHeld ?_
            rotate_left
            · intro w' hSw; try dsimp only at hSw
              go_simp; try (with_reducible rfl)
            try simp only [Act.put, List.getElem_toArray, List.getElem_cons_succ, List.getElem_cons_zero, List.setIfInBounds_toArray, List.set_cons_zero, List.set_cons_succ]
            refine wpAnyH_done (by kernel_rfl) ?_ _
            refine NoPanic.normal ?_
            clear hHeld hsb hsf ho9
            have hpm : (l.drop k ++ l.take k).Perm l := List.perm_append_comm.trans (by rw [List.take_append_drop])
            have hlm : (l.drop k ++ l.take k).length = n := by rw [hpm.length_eq]; exact h.len
            have hiq := hR.inE hlm hnc' hcm' (by omega)
            have hbA : Below w.heap.size w WA := b8.drew.trans (hba.mono hs29)
            have hNm := norm_ok _ _ _ _ _ hiq (by omega) (norm_rot hc hpm).1
            rw [(norm_rot hc hpm).2] at hNm
            clear hR hiq hpm hlm hba
            go_wp2_with fail
            refine hNm.mono ?_
            rintro e9 w90 ⟨v90, rfl, ho90, hb90⟩
            have b90 := bt hbA hb90
            rw [HLN.out] at ho90
            obtain ⟨p90, c90, hv90, hi90⟩ := in_of_ownsE ho90 (by omega)
            subst hv90
            clear hNm ho90 hb90
            go_wp2_with fail
            refine (equalE_yes _ _ _ _ _ _ _ hi90 (h.below b90)).mono ?_
            rintro e9 w91 ⟨rfl, hb91⟩
            have b91 := bt b90 hb91
            clear b90 hb91 hi90
            go_wp2
            go_ret
            exact ⟨rfl, b91⟩
      | true =>
        have hchk : chkB (putL e l) = true := normR_chk (put_ok (chkB_ord hc) he)
        have hpl : (putL e l).length ≤ 1000000 := by have := put_len (l := l) (e := e); have := h.len; omega
        go_wp2_with fail
        refine (put_yes p n c l e _ (h.below b4) (by omega) hc he).mono ?_
        rintro e9 w5 ⟨v3, v4, rfl, ho3, ho4, hb5⟩
        have b5 := bt b4 hb5
        obtain ⟨p3, q3, hv3, hi3⟩ := in_of_ownsE ho3 (by omega)
        subst hv3
        have hrc3 := rcheck_any _ _ _ _ _ hi3
        rw [chkE_ok hchk] at hrc3
        obtain ⟨T3, hT3⟩ : ∃ T3, (putL e l).length = T3 := ⟨_, rfl⟩
        rw [hT3] at hrc3 ⊢
        clear hT3 ho3 ho4 hi3 hchk
        clear b4 hb5
        go_wp2_with fail
        refine (hrc3).mono ?_
        rintro e9 w6 ⟨rfl, hb6⟩
        have b6 := bt b5 hb6
        clear b5 hb6
        go_wp2_with fail
        refine (hrk _ (h.below b6)).mono ?_
        rintro e9 w7 ⟨rfl, hb7⟩
        have b7 := bt b6 hb7
        clear b6 hb7
        go_wp2_with fail
        refine (long_any p n c l _ (h.below b7) hc).mono ?_
        rintro e9 w8 ⟨⟨bl, rfl⟩, hb8⟩
        have b8 := bt b7 hb8
        clear b7 hb8
        cases bl with
        | true =>
          go_wp2
          go_ret
          exact ⟨rfl, b8⟩
        | false =>
          go_wp2_with fail
          refine (cloneE_any p n c l _ (h.below b8) (by omega)).mono ?_
          rintro e9 w9 ⟨p9, c9, rfl, ho9, hb9⟩
          have b9 := bt b8 hb9
          have hsz9 := hb9.size
          have hs29 := b8.size
          clear b8
          rcases Nat.eq_zero_or_pos n with hz | hz
          · subst hz
            obtain ⟨pq, cq, hvq, hiq⟩ := in_of_ownsE ho9 (by omega)
            cases hvq
            have hNm := norm_ok _ _ _ _ _ hiq (by omega) (norm_rot hc (List.Perm.refl _)).1
            rw [(norm_rot hc (List.Perm.refl _)).2] at hNm
            clear ho9 hiq hb9
            go_wp2_with fail
            refine hNm.mono ?_
            rintro e9 w90 ⟨v90, rfl, ho90, hb90⟩
            have b90 := bt b9 hb90
            rw [HLN.out] at ho90
            obtain ⟨p90, c90, hv90, hi90⟩ := in_of_ownsE ho90 (by omega)
            subst hv90
            clear hNm ho90 hb90
            go_wp2_with fail
            refine (equalE_yes _ _ _ _ _ _ _ hi90 (h.below b90)).mono ?_
            rintro e9 w91 ⟨rfl, hb91⟩
            have b91 := bt b90 hb91
            clear b90 hb91 hi90
            go_wp2
            go_ret
            exact ⟨rfl, b91⟩
          · obtain ⟨k, Hk⟩ : ∃ k, k = tu % n := ⟨_, rfl⟩
            have hkn : k < n := by rw [Hk]; exact Nat.mod_lt _ (by omega)
            have htm : (tu : Int).tmod (n : Int) = (k : Int) := by rw [Hk]; rfl
            clear Hk
            have hki : (k : Int) < (n : Int) := by omega
            have hnz : ¬ (n : Int) = 0 := by omega
            have hnp : (n : Int) > 0 := by omega
            have htu2 : IntKind.i64.wrap (tu : Int) = (tu : Int) := by rw [IntKind.wrap_i64]; omega
            obtain ⟨gc, rfl, hgB, hnc, hcm, -⟩ := rowE_of_owns ho9 (by omega)
            have hsb := sliceE_back gc 0 n c9 k hkn hnc
            have hsf := sliceE_front (some ⟨gc, 0, none⟩) n c9 k (by omega) hnc
            rw [Nat.zero_add] at hsb
            go_upto_region 16 with fail
            refine wp_region_noPanic ?_
            refine wp_region_held_drew (S := fun _ => True) (by kernel_rfl) trivial (fun hHeld => ?_)
            refine wpAnyH_take (i := 0) (v := ?_) rfl (by kernel_rfl) (by kernel_rfl) (by kernel_rfl) (fun _ _ _ h => h) (Or.inl ⟨by rfl, ?_⟩) hHeld ?_
            rotate_left
            · intro w' hSw; try dsimp only at hSw
              go_simp; try (with_reducible rfl)
            try simp only [Act.put, List.getElem_toArray, List.getElem_cons_succ, List.getElem_cons_zero, List.setIfInBounds_toArray, List.set_cons_zero, List.set_cons_succ]
            refine wpAnyH_take (i := 1) (v := ?_) rfl (by kernel_rfl) (by kernel_rfl) (by kernel_rfl) (fun _ _ _ h => h) (Or.inl ⟨by rfl, ?_⟩) hHeld ?_
            rotate_left
            · intro w' hSw; try dsimp only at hSw
              go_simp; try (with_reducible rfl)
            try simp only [Act.put, List.getElem_toArray, List.getElem_cons_succ, List.getElem_cons_zero, List.setIfInBounds_toArray, List.set_cons_zero, List.set_cons_succ]
            refine wpAnyH_take (i := 2) (v := ?_) rfl (by kernel_rfl) (by kernel_rfl) (by kernel_rfl) (fun _ _ _ h => h) (Or.inl ⟨by rfl, ?_⟩) hHeld ?_
            rotate_left
            · intro w' hSw; try dsimp only at hSw
              go_simp; try (with_reducible rfl)
            try simp only [Act.put, List.getElem_toArray, List.getElem_cons_succ, List.getElem_cons_zero, List.setIfInBounds_toArray, List.set_cons_zero, List.set_cons_succ]
            refine wpAnyH_take (i := 3) (v := ?_) rfl (by kernel_rfl) (by kernel_rfl) (by kernel_rfl) (fun _ _ _ h => h) (Or.inl ⟨by rfl, ?_⟩) hHeld ?_
            rotate_left
            · intro w' hSw; try dsimp only at hSw
              go_simp; try (with_reducible rfl)
            try simp only [Act.put, List.getElem_toArray, List.getElem_cons_succ, List.getElem_cons_zero, List.setIfInBounds_toArray, List.set_cons_zero, List.set_cons_succ]
            refine wpAnyH_take (i := 4) (v := ?_) rfl (by kernel_rfl) (by kernel_rfl) (by kernel_rfl) (fun _ _ _ h => h) (Or.inl ⟨by rfl, ?_⟩) hHeld ?_
            rotate_left
            · intro w' hSw; try dsimp only at hSw
              go_simp; try (with_reducible rfl)
            try simp only [Act.put, List.getElem_toArray, List.getElem_cons_succ, List.getElem_cons_zero, List.setIfInBounds_toArray, List.set_cons_zero, List.set_cons_succ]
            refine wpAnyH_take (i := 5) (v := ?_) rfl (by kernel_rfl) (by kernel_rfl) (by kernel_rfl) (fun _ _ _ h => h) (Or.inl ⟨by rfl, ?_⟩) hHeld ?_
            rotate_left
            · intro w' hSw; try dsimp only at hSw
              go_simp; try (with_reducible rfl)
            try simp only [Act.put, List.getElem_toArray, List.getElem_cons_succ, List.getElem_cons_zero, List.setIfInBounds_toArray, List.set_cons_zero, List.set_cons_succ]
            refine wpAnyH_ready (rs := [6]) (by kernel_rfl) (by simp) ?_
            refine AllReadyH.cons rfl (fun K hK => ?_) AllReadyH.nil
            rw [if_pos (by rfl)]
            refine wp_append_rot (.tmp 73) (.tmp 76) rfl w8.heap.size gc n c9 k l _ rfl rfl (owns_below ho9 (Below.refl _ _).drew) hkn (by omega) (show w8.heap.size ≤ w9.drew.heap.size from hsz9) ?_
            intro g' o' c' WA hR hnc' hcm' hgB' hba
            refine hK.out _ _ trivial (fun hHeld => ?_)
            clear hK K
            try simp only [Act.put, List.getElem_toArray, List.getElem_cons_succ, List.getElem_cons_zero, List.setIfInBounds_toArray, List.set_cons_zero, List.set_cons_succ]
            refine wpAnyH_take (i := 7) (v := ?_) rfl (by kernel_rfl) (by kernel_rfl) (by kernel_rfl) (fun _ _ _ h => h) (Or.inl ⟨by rfl, ?_⟩) hHeld ?_
            rotate_left
            · intro w' hSw; try dsimp only at hSw
              go_simp; try (with_reducible rfl)
            try simp only [Act.put, List.getElem_toArray, List.getElem_cons_succ, List.getElem_cons_zero, List.setIfInBounds_toArray, List.set_cons_zero, List.set_cons_succ]
            refine wpAnyH_done (by kernel_rfl) ?_ _
            refine NoPanic.normal ?_
            clear hHeld hsb hsf ho9
            have hpm : (l.drop k ++ l.take k).Perm l := List.perm_append_comm.trans (by rw [List.take_append_drop])
            have hlm : (l.drop k ++ l.take k).length = n := by rw [hpm.length_eq]; exact h.len
            have hiq := hR.inE hlm hnc' hcm' (by omega)
            have hbA : Below w.heap.size w WA := b9.drew.trans (hba.mono hs29)
            have hNm := norm_ok _ _ _ _ _ hiq (by omega) (norm_rot hc hpm).1
            rw [(norm_rot hc hpm).2] at hNm
            clear hR hiq hpm hlm hba
            go_wp2_with fail
            refine hNm.mono ?_
            rintro e9 w90 ⟨v90, rfl, ho90, hb90⟩
            have b90 := bt hbA hb90
            rw [HLN.out] at ho90
            obtain ⟨p90, c90, hv90, hi90⟩ := in_of_ownsE ho90 (by omega)
            subst hv90
            clear hNm ho90 hb90
            go_wp2_with fail
            refine (equalE_yes _ _ _ _ _ _ _ hi90 (h.below b90)).mono ?_
            rintro e9 w91 ⟨rfl, hb91⟩
            have b91 := bt b90 hb91
            clear b90 hb91 hi90
            go_wp2
            go_ret
            exact ⟨rfl, b91⟩
end Go.Proofs.Ytmboohadindlfaa
