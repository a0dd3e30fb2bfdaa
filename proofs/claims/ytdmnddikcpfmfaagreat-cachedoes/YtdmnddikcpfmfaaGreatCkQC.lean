/-
  The reference's Clean.
-/
import Derived.Test.YtdmnddikcpfmfaaGreatCkQB
namespace Go.Proofs.YtdmnddikcpfmfaaGreat
open Go.RowKit Go.Shelf
def clQ1 (l : List BP) (t : RS) (i : Int) : Int × List BP × RS :=
  if hasB t.secs.length i = false then (1, l, t) else
  match cutAt (isK i.toNat) l with
  | none => (0, l, t)
  | some (p, x, q) => if x.cl = 0 then (0, l, t) else if 0 < x.pins then (101, l, t) else
    (rwE t i x.D.length, if rwE t i x.D.length = 0 then p ++ ⟨x.k, x.D, 0, x.pins⟩ :: q else l, rwS t i x.D)
def clQL (l : List BP) (t : RS) : List Int → Int × List BP × RS
  | [] => (0, l, t)
  | i :: r => if (clQ1 l t i).1 = 0 then clQL (clQ1 l t i).2.1 (clQ1 l t i).2.2 r else clQ1 l t i
theorem rwS_many (t : RS) (i : Int) (D : List Nat) : (rwS t i D).many ≤ t.many + 1 ∧ (rwS t i D).wrote.length ≤ t.wrote.length + 1 := by
  unfold rwS
  split
  · exact ⟨by omega, by omega⟩
  · split
    · exact ⟨by omega, by omega⟩
    · split
      · exact ⟨Nat.le_succ _, Nat.le_succ _⟩
      · exact ⟨Nat.le_refl _, by simp⟩
set_option linter.unusedSimpArgs false in
set_option maxHeartbeats 4000000 in
set_option maxRecDepth 100000 in
theorem qclean_any {w : World} {s : QS} (h : QIn w s) (p : Option Addr) (n c : Nat) (xs : List Int) (hI : IntsQ w s p n c xs) (hm1 : s.t.many + dirtyN s.P < 2000) (hm2 : s.t.wrote.length + dirtyN s.P < 2000) : Calls Tryz.prog 34 #[.pointer (some ⟨s.q, 0, none⟩), .slice p n c] w fun e w' =>
    e = .returned (.int .i64 (clQL s.P s.t xs).1) ∧ ∃ s', QAfter w w' s s' ∧ s'.P = (clQL s.P s.t xs).2.1 ∧ s'.t = (clQL s.P s.t xs).2.2 := by
  have hlen := hI.ii.len
  have hroom := hI.ii.room
  obtain ⟨R, HR0⟩ : ∃ R, Hid (R = clQL s.P s.t xs) := ⟨_, rfl⟩
  rw [← HR0.out]
  have HR : Hid (R = clQL s.P s.t (xs.drop 0)) := HR0.out
  clear HR0
  go_enter Tryz.func34, Tryz.ntmps34
  go_wp2_with fail
  go_loopg [5] n (fun j v wr => ∃ (k : Nat) (s' : QS), v = .int .i64 (k : Int) ∧ k ≤ n ∧ j = n - k ∧ QAfter w wr s s' ∧ Hid (R = clQL s'.P s'.t (xs.drop k)) ∧ s'.t.many + dirtyN s'.P ≤ s.t.many + dirtyN s.P ∧ s'.t.wrote.length + dirtyN s'.P ≤ s.t.wrote.length + dirtyN s.P)
  case atStart => exact ⟨0, s, rfl, by omega, rfl, QAfter.refl h, HR, by omega, by omega⟩
  case round =>
    clear HR
    obtain ⟨k, s1, rfl, hk, rfl, A1, HR1, hy1, hy2⟩ := hrel
    have hI1 := hI.next A1
    have h1 := A1.qin
    by_cases hkn : k < n
    · obtain ⟨b, o, rfl, hlt, hcell⟩ := hI1.ii.at' (by omega)
      have hck := hcell k hkn
      have hw1 : s1.t.many < 2000 := by omega
      have hw2 : s1.t.wrote.length < 2000 := by omega
      have HQ : Hid (s1.q = s.q) := A1.q
      have hib := qthere_any h1 (eI xs k)
      have ha := qat_any h1 (eI xs k)
      rw [HQ.out] at hib ha
      have hd : xs.drop k = eI xs k :: xs.drop (k + 1) := drop_eI xs k (by omega)
      have hR2 := HR1.out
      rw [hd, clQL] at hR2
      have hki : (k : Int) < (n : Int) := by omega
      obtain ⟨ik, hik⟩ : ∃ ik, ik = eI xs k := ⟨_, rfl⟩
      rw [← hik] at hck hib ha hR2
      have HIK : Hid (ik = eI xs k) := hik
      clear hcell hd hik
      cases hb : hasB s1.t.secs.length ik with
      | false =>
        have e1 : clQ1 s1.P s1.t ik = (1, s1.P, s1.t) := by rw [clQ1, if_pos hb]
        rw [e1, if_neg (by simp)] at hR2
        have HR2 : Hid (R = (1, s1.P, s1.t)) := hR2
        rw [hb] at hib
        clear e1 hR2 hb ha
        go_wp2_with (go_at_call 74; refine hib.mono ?_; rintro e w' ⟨rfl, hw'⟩; have hw2 := hw'.symm; subst hw2; clear hw')
        go_ret
        exact ⟨by rw [HR2.out]; rfl, s1, A1, by rw [HR2.out], by rw [HR2.out]⟩
      | true =>
        rw [hb] at hib
        obtain ⟨m, rfl⟩ : ∃ m : Nat, ik = (m : Int) := ⟨ik.toNat, by simp [hasB] at hb; omega⟩
        have HM : Hid (eI xs k = (m : Int)) := HIK.out.symm
        cases hc : cutAt (isK m) s1.P with
        | none =>
          have e1 : clQ1 s1.P s1.t (m : Int) = (0, s1.P, s1.t) := by rw [clQ1, if_neg (by rw [hb]; simp), Int.toNat_natCast, hc]
          have e3 : atI s1.P (m : Int) = -1 := by rw [atI, isI_isK, hc]
          rw [e1, if_pos rfl] at hR2
          have HR2 : Hid (R = clQL s1.P s1.t (xs.drop (k + 1))) := hR2
          rw [e3] at ha
          clear e1 e3 hR2 hc hb
          go_wp2_with (first | (go_at_call 74; refine hib.mono ?_; rintro e w' ⟨rfl, hw'⟩; have hw2 := hw'.symm; subst hw2; clear hw') | (go_at_call 75; refine ha.mono ?_; rintro e w' ⟨rfl, hw'⟩; have hw2 := hw'.symm; subst hw2; clear hw'))
          go_roundg (n - (k + 1))
          case measure => omega
          case rel => exact ⟨k + 1, s1, by go_num, by omega, rfl, A1, HR2, by omega, by omega⟩
        | some r =>
          obtain ⟨P1, y, Q1⟩ := r
          obtain ⟨hP, -, -⟩ := cutAt_spec hc
          have e3 : atI s1.P (m : Int) = (P1.length : Int) := by rw [atI, isI_isK, hc]
          have e1 : clQ1 s1.P s1.t (m : Int) = if y.cl = 0 then (0, s1.P, s1.t) else if 0 < y.pins then (101, s1.P, s1.t) else (rwE s1.t (m : Int) y.D.length, if rwE s1.t (m : Int) y.D.length = 0 then P1 ++ ⟨y.k, y.D, 0, y.pins⟩ :: Q1 else s1.P, rwS s1.t (m : Int) y.D) := by rw [clQ1, if_neg (by rw [hb]; simp), Int.toNat_natCast, hc]
          rw [e1] at hR2
          rw [e3] at ha
          have hpy : s1.P[P1.length]? = some y := by rw [hP]; simp
          obtain ⟨x, hxi, hxy⟩ := QS.at hpy
          subst hxy
          have hxL : x ∈ s1.L := List.mem_of_getElem? hxi
          have hil : P1.length < s1.L.length := (List.getElem?_eq_some_iff.1 hxi).1
          obtain ⟨g, cap, hg, -, -⟩ := owns_at h1.row (by omega)
          have HVL : Hid (s1.lv = .slice (some ⟨g, 0, none⟩) s1.L.length cap) := hg
          obtain ⟨nl, HNL⟩ : ∃ nl, Hid (s1.L.length = nl) := ⟨_, rfl⟩
          have HV : Hid (s1.lv = .slice (some ⟨g, 0, none⟩) nl cap) := by show _ = _; rw [hg, HNL.out]
          have hgo : Hid (s1.lv.ownBlock = some g) := by show _ = _; rw [hg]; rfl
          have hbq := h1.blk
          rw [HV.out, HQ.out] at hbq
          have c2 := hbq.cell' (i := 2) rfl
          have f1 := h1.cellAt hg hxi (j := 1) (by omega) (v := .slice x.p x.b.D.length x.cap) rfl
          have f2 := h1.cellAt hg hxi (j := 2) (by omega) (v := .int .i64 (x.b.cl : Int)) rfl
          have f3 := h1.cellAt hg hxi (j := 3) (by omega) (v := .int .i64 (x.b.pins : Int)) rfl
          have HXI : Hid (s1.L[P1.length]? = some x) := hxi
          have HS : Hid ((s1.L.set P1.length ⟨⟨x.b.k, x.b.D, 0, x.b.pins⟩, x.p, x.cap⟩).map (·.b) = P1 ++ ⟨x.b.k, x.b.D, 0, x.b.pins⟩ :: Q1) := by
            show _ = _
            have e : s1.L.map (·.b) = P1 ++ x.b :: Q1 := hP
            rw [List.map_set, e]
            simp
          rw [HNL.out] at hil
          have hmy := rwS_many s1.t (m : Int) x.b.D
          have HP0 : Hid (s1.P = P1 ++ x.b :: Q1) := hP
          clear hP hpy hg e3 e1 hc hb hxi
          generalize P1.length = j at *
          have hji : (j : Int) < (nl : Int) := by omega
          have hj0 : ¬ (j : Int) < 0 := by omega
          by_cases h0 : x.b.cl = 0
          · have hz : ((x.b.cl : Int) == 0) = true := by rw [h0]; rfl
            rw [if_pos h0, if_pos rfl] at hR2
            have HR2 : Hid (R = clQL s1.P s1.t (xs.drop (k + 1))) := hR2
            clear h0 hR2
            go_wp2_with (first | (go_at_call 74; refine hib.mono ?_; rintro e w' ⟨rfl, hw'⟩; have hw2 := hw'.symm; subst hw2; clear hw') | (go_at_call 75; refine ha.mono ?_; rintro e w' ⟨rfl, hw'⟩; have hw2 := hw'.symm; subst hw2; clear hw'))
            go_roundg (n - (k + 1))
            case measure => omega
            case rel => exact ⟨k + 1, s1, by go_num, by omega, rfl, A1, HR2, by omega, by omega⟩
          have hz : ((x.b.cl : Int) == 0) = false := by rw [beq_eq_false_iff_ne]; omega
          rw [if_neg h0] at hR2
          have HDN : Hid (dirtyN (P1 ++ ⟨x.b.k, x.b.D, 0, x.b.pins⟩ :: Q1) + 1 = dirtyN s1.P) := by
            show _ = _
            rw [HP0.out]
            simp [dirtyN, h0]
            omega
          clear h0
          by_cases hp : 0 < x.b.pins
          · have hpi : (0 : Int) < (x.b.pins : Int) := by omega
            rw [if_pos hp, if_neg (by simp)] at hR2
            have HR2 : Hid (R = (101, s1.P, s1.t)) := hR2
            clear hp hR2
            go_wp2_with (first | (go_at_call 74; refine hib.mono ?_; rintro e w' ⟨rfl, hw'⟩; have hw2 := hw'.symm; subst hw2; clear hw') | (go_at_call 75; refine ha.mono ?_; rintro e w' ⟨rfl, hw'⟩; have hw2 := hw'.symm; subst hw2; clear hw'))
            go_ret
            exact ⟨by rw [HR2.out]; rfl, s1, A1, by rw [HR2.out], by rw [HR2.out]⟩
          have hpi : ¬ (0 : Int) < (x.b.pins : Int) := by omega
          rw [if_neg hp] at hR2
          obtain ⟨EE, HEE⟩ : ∃ EE, Hid (rwE s1.t (m : Int) x.b.D.length = EE) := ⟨_, rfl⟩
          rw [HEE.out] at hR2
          clear hp
          by_cases hE : EE = 0
          · subst hE
            rw [if_pos rfl, if_pos rfl] at hR2
            have HR2 : Hid (R = clQL (P1 ++ ⟨x.b.k, x.b.D, 0, x.b.pins⟩ :: Q1) (rwS s1.t (m : Int) x.b.D) (xs.drop (k + 1))) := hR2
            clear hR2
            go_wp2_with (first | (go_at_call 74; refine hib.mono ?_; rintro e w' ⟨rfl, hw'⟩; have hw2 := hw'.symm; subst hw2; clear hw') | (go_at_call 75; refine ha.mono ?_; rintro e w' ⟨rfl, hw'⟩; have hw2 := hw'.symm; subst hw2; clear hw'))
            refine wp_region_noPanic ?_
            refine wp_region_held_drew (S := fun X => Blk X s.q 77 [.pointer (some ⟨s1.g, 0, none⟩), .int .i64 (s1.room : Int), .slice (some ⟨g, 0, none⟩) nl cap] ∧ X.cell? ⟨b, o + k, none⟩ = some (.int .i64 (m : Int)) ∧ X.cell? ⟨g, j * 4 + 1, none⟩ = some (.slice x.p x.b.D.length x.cap)) (by kernel_rfl) ⟨hbq.drew, hck, f1⟩ (fun hHeld => ?_)
            refine wpAnyH_take (i := 0) (v := ?_) rfl (by kernel_rfl) (by kernel_rfl) (by kernel_rfl) (fun _ _ _ h => h) (Or.inl ⟨by kernel_rfl, ?_⟩) hHeld ?_
            rotate_left
            · intro w' hSw; try dsimp only at hSw
              go_simp; try (with_reducible rfl)
            try simp only [Act.put, List.getElem_toArray, List.getElem_cons_succ, List.getElem_cons_zero, List.setIfInBounds_toArray, List.set_cons_zero, List.set_cons_succ]
            refine wpAnyH_take (i := 1) (v := ?_) rfl (by kernel_rfl) (by kernel_rfl) (by kernel_rfl) (fun _ _ _ h => h) (Or.inl ⟨by kernel_rfl, ?_⟩) hHeld ?_
            rotate_left
            · intro w' hSw; try dsimp only at hSw
              go_simp; try (with_reducible rfl)
            try simp only [Act.put, List.getElem_toArray, List.getElem_cons_succ, List.getElem_cons_zero, List.setIfInBounds_toArray, List.set_cons_zero, List.set_cons_succ]
            refine wpAnyH_take (i := 2) (v := ?_) rfl (by kernel_rfl) (by kernel_rfl) (by kernel_rfl) (fun _ _ _ h => h) (Or.inl ⟨by kernel_rfl, ?_⟩) hHeld ?_
            rotate_left
            · intro w' hSw; try dsimp only at hSw
              go_simp; try (with_reducible rfl)
            try simp only [Act.put, List.getElem_toArray, List.getElem_cons_succ, List.getElem_cons_zero, List.setIfInBounds_toArray, List.set_cons_zero, List.set_cons_succ]
            refine wpAnyH_take (i := 3) (v := ?_) rfl (by kernel_rfl) (by kernel_rfl) (by kernel_rfl) (fun _ _ _ h => h) (Or.inl ⟨by kernel_rfl, ?_⟩) hHeld ?_
            rotate_left
            · intro w' hSw; try dsimp only at hSw
              have d0 := hSw.1.cell' (i := 0) rfl
              go_simp; try (with_reducible rfl)
            try simp only [Act.put, List.getElem_toArray, List.getElem_cons_succ, List.getElem_cons_zero, List.setIfInBounds_toArray, List.set_cons_zero, List.set_cons_succ]
            refine wpAnyH_take (i := 4) (v := ?_) rfl (by kernel_rfl) (by kernel_rfl) (by kernel_rfl) (fun _ _ _ h => h) (Or.inl ⟨by kernel_rfl, ?_⟩) hHeld ?_
            rotate_left
            · intro w' hSw; try dsimp only at hSw
              go_simp; try (with_reducible rfl)
            try simp only [Act.put, List.getElem_toArray, List.getElem_cons_succ, List.getElem_cons_zero, List.setIfInBounds_toArray, List.set_cons_zero, List.set_cons_succ]
            refine wpAnyH_take (i := 5) (v := ?_) rfl (by kernel_rfl) (by kernel_rfl) (by kernel_rfl) (fun _ _ _ h => h) (Or.inl ⟨by kernel_rfl, ?_⟩) hHeld ?_
            rotate_left
            · intro w' hSw; try dsimp only at hSw
              go_simp; try (with_reducible rfl)
            try simp only [Act.put, List.getElem_toArray, List.getElem_cons_succ, List.getElem_cons_zero, List.setIfInBounds_toArray, List.set_cons_zero, List.set_cons_succ]
            refine wpAnyH_take (i := 6) (v := ?_) rfl (by kernel_rfl) (by kernel_rfl) (by kernel_rfl) (fun _ _ _ h => h) (Or.inl ⟨by kernel_rfl, ?_⟩) hHeld ?_
            rotate_left
            · intro w' hSw; try dsimp only at hSw
              go_simp; try (with_reducible rfl)
            try simp only [Act.put, List.getElem_toArray, List.getElem_cons_succ, List.getElem_cons_zero, List.setIfInBounds_toArray, List.set_cons_zero, List.set_cons_succ]
            refine wpAnyH_take (i := 7) (v := ?_) rfl (by kernel_rfl) (by kernel_rfl) (by kernel_rfl) (fun _ _ _ h => h) (Or.inl ⟨by kernel_rfl, ?_⟩) hHeld ?_
            rotate_left
            · intro w' hSw; try dsimp only at hSw
              have d0 := hSw.2.1
              go_simp; try (with_reducible rfl)
            try simp only [Act.put, List.getElem_toArray, List.getElem_cons_succ, List.getElem_cons_zero, List.setIfInBounds_toArray, List.set_cons_zero, List.set_cons_succ]
            refine wpAnyH_take (i := 8) (v := ?_) rfl (by kernel_rfl) (by kernel_rfl) (by kernel_rfl) (fun _ _ _ h => h) (Or.inl ⟨by kernel_rfl, ?_⟩) hHeld ?_
            rotate_left
            · intro w' hSw; try dsimp only at hSw
              go_simp; try (with_reducible rfl)
            try simp only [Act.put, List.getElem_toArray, List.getElem_cons_succ, List.getElem_cons_zero, List.setIfInBounds_toArray, List.set_cons_zero, List.set_cons_succ]
            refine wpAnyH_take (i := 9) (v := ?_) rfl (by kernel_rfl) (by kernel_rfl) (by kernel_rfl) (fun _ _ _ h => h) (Or.inl ⟨by kernel_rfl, ?_⟩) hHeld ?_
            rotate_left
            · intro w' hSw; try dsimp only at hSw
              go_simp; try (with_reducible rfl)
            try simp only [Act.put, List.getElem_toArray, List.getElem_cons_succ, List.getElem_cons_zero, List.setIfInBounds_toArray, List.set_cons_zero, List.set_cons_succ]
            refine wpAnyH_take (i := 10) (v := ?_) rfl (by kernel_rfl) (by kernel_rfl) (by kernel_rfl) (fun _ _ _ h => h) (Or.inl ⟨by kernel_rfl, ?_⟩) hHeld ?_
            rotate_left
            · intro w' hSw; try dsimp only at hSw
              go_simp; try (with_reducible rfl)
            try simp only [Act.put, List.getElem_toArray, List.getElem_cons_succ, List.getElem_cons_zero, List.setIfInBounds_toArray, List.set_cons_zero, List.set_cons_succ]
            refine wpAnyH_take (i := 11) (v := ?_) rfl (by kernel_rfl) (by kernel_rfl) (by kernel_rfl) (fun _ _ _ h => h) (Or.inl ⟨by kernel_rfl, ?_⟩) hHeld ?_
            rotate_left
            · intro w' hSw; try dsimp only at hSw
              have d0 := hSw.1.cell' (i := 2) rfl
              go_simp; try (with_reducible rfl)
            try simp only [Act.put, List.getElem_toArray, List.getElem_cons_succ, List.getElem_cons_zero, List.setIfInBounds_toArray, List.set_cons_zero, List.set_cons_succ]
            refine wpAnyH_take (i := 12) (v := ?_) rfl (by kernel_rfl) (by kernel_rfl) (by kernel_rfl) (fun _ _ _ h => h) (Or.inl ⟨by kernel_rfl, ?_⟩) hHeld ?_
            rotate_left
            · intro w' hSw; try dsimp only at hSw
              go_simp; try (with_reducible rfl)
            try simp only [Act.put, List.getElem_toArray, List.getElem_cons_succ, List.getElem_cons_zero, List.setIfInBounds_toArray, List.set_cons_zero, List.set_cons_succ]
            refine wpAnyH_take (i := 13) (v := ?_) rfl (by kernel_rfl) (by kernel_rfl) (by kernel_rfl) (fun _ _ _ h => h) (Or.inl ⟨by kernel_rfl, ?_⟩) hHeld ?_
            rotate_left
            · intro w' hSw; try dsimp only at hSw
              go_simp; try (with_reducible rfl)
            try simp only [Act.put, List.getElem_toArray, List.getElem_cons_succ, List.getElem_cons_zero, List.setIfInBounds_toArray, List.set_cons_zero, List.set_cons_succ]
            refine wpAnyH_take (i := 14) (v := ?_) rfl (by kernel_rfl) (by kernel_rfl) (by kernel_rfl) (fun _ _ _ h => h) (Or.inl ⟨by kernel_rfl, ?_⟩) hHeld ?_
            rotate_left
            · intro w' hSw; try dsimp only at hSw
              go_simp; try (with_reducible rfl)
            try simp only [Act.put, List.getElem_toArray, List.getElem_cons_succ, List.getElem_cons_zero, List.setIfInBounds_toArray, List.set_cons_zero, List.set_cons_succ]
            refine wpAnyH_take (i := 15) (v := ?_) rfl (by kernel_rfl) (by kernel_rfl) (by kernel_rfl) (fun _ _ _ h => h) (Or.inl ⟨by kernel_rfl, ?_⟩) hHeld ?_
            rotate_left
            · intro w' hSw; try dsimp only at hSw
              have d0 := hSw.2.2
              go_simp; try (with_reducible rfl)
            try simp only [Act.put, List.getElem_toArray, List.getElem_cons_succ, List.getElem_cons_zero, List.setIfInBounds_toArray, List.set_cons_zero, List.set_cons_succ]
            refine wpAnyH_ready (rs := [16]) (by kernel_rfl) (by simp) ?_
            refine AllReadyH.cons rfl (fun K hK => ?_) AllReadyH.nil
            go_simp
            refine (rwrite_any (h1.below ((Below.refl _ _).drew)).ref (m : Int) x.p x.b.D.length x.cap x.b.D ((h1.below ((Below.refl _ _).drew)).dat x hxL).1 (fun a ha e => by obtain ⟨cs, hc⟩ := (h1.dat x hxL).2 a ha; exact h1.u8_ne hc (.inr (.inr e))) hw1 hw2).mono ?_
            rintro e w5 ⟨rfl, V5, hR5⟩
            rw [HEE.out]
            have hA5 := (h1.below ((Below.refl _ _).drew)).disked hR5
            have hI5 := (hI1.kept ((Below.refl _ _).drew)).next hA5
            have kq' : Blk w5 s.q 77 [.pointer (some ⟨s1.g, 0, none⟩), .int .i64 (s1.room : Int), .slice (some ⟨g, 0, none⟩) nl cap] := by have := hA5.qin.blk; dsimp only at this; rwa [HV.out, HQ.out] at this
            have hck5 : w5.cell? ⟨b, o + k, none⟩ = some (.int .i64 (m : Int)) := by obtain ⟨b', o', hp', -, hc'⟩ := hI5.ii.at' (by omega); cases hp'; rw [← HM.out]; exact hc' k hkn
            have f5 : w5.cell? ⟨g, j * 4 + 1, none⟩ = some (.slice x.p x.b.D.length x.cap) := by exact hA5.qin.cellAt (s := { s1 with V := V5, t := rwS s1.t (m : Int) x.b.D }) HVL.out HXI.out (j := 1) (by omega) rfl
            refine hK.out _ _ ⟨kq', hck5, f5⟩ (fun hHeld => ?_)
            clear hK K
            try simp only [Act.put, List.getElem_toArray, List.getElem_cons_succ, List.getElem_cons_zero, List.setIfInBounds_toArray, List.set_cons_zero, List.set_cons_succ]
            refine wpAnyH_take (i := 17) (v := ?_) rfl (by kernel_rfl) (by kernel_rfl) (by kernel_rfl) (fun _ _ _ h => h) (Or.inl ⟨by kernel_rfl, ?_⟩) hHeld ?_
            rotate_left
            · intro w' hSw; try dsimp only at hSw
              go_simp; try (with_reducible rfl)
            try simp only [Act.put, List.getElem_toArray, List.getElem_cons_succ, List.getElem_cons_zero, List.setIfInBounds_toArray, List.set_cons_zero, List.set_cons_succ]
            refine wpAnyH_done (by kernel_rfl) ?_ _
            refine NoPanic.normal ?_
            have c25 := kq'.cell' (i := 2) rfl
            have f25 : w5.cell? ⟨g, j * 4 + 2, none⟩ = some (.int .i64 (x.b.cl : Int)) := hA5.qin.cellAt (s := { s1 with V := V5, t := rwS s1.t (m : Int) x.b.D }) HVL.out HXI.out (j := 2) (by omega) rfl
            have hrw := hA5.qin.row
            rw [show ({ s1 with V := V5, t := rwS s1.t (m : Int) x.b.D } : QS).lv = s1.lv from rfl, HVL.out] at hrw
            have z25 := hrw.frozenAt (j * 4 + 2)
            have A6 := hA5.qin.rowset (s := { s1 with V := V5, t := rwS s1.t (m : Int) x.b.D }) hgo.out HXI.out 2 (.int .i64 0) (x' := ⟨⟨x.b.k, x.b.D, 0, x.b.pins⟩, x.p, x.cap⟩) (by omega) rfl ⟨rfl, rfl, rfl⟩
            have HA6 : Hid _ := A6
            clear hHeld hrw A6 f5
            go_wp2_with fail
            go_roundg (n - (k + 1))
            case measure => omega
            case rel => exact ⟨k + 1, _, by go_num, by omega, rfl, (A1.trans (hA5.drop ((Below.refl _ _).drew))).trans HA6.out, by show _ = _; rw [HR2.out, ← HS.out]; rfl, by show (rwS s1.t (m : Int) x.b.D).many + dirtyN ((s1.L.set j ⟨⟨x.b.k, x.b.D, 0, x.b.pins⟩, x.p, x.cap⟩).map (·.b)) ≤ _; rw [HS.out]; have := HDN.out; omega, by show (rwS s1.t (m : Int) x.b.D).wrote.length + dirtyN ((s1.L.set j ⟨⟨x.b.k, x.b.D, 0, x.b.pins⟩, x.p, x.cap⟩).map (·.b)) ≤ _; rw [HS.out]; have := HDN.out; omega⟩
          · have hEi : (EE != 0) = true := by rw [bne_iff_ne]; exact hE
            rw [if_neg hE, if_neg hE] at hR2
            have HR2 : Hid (R = (EE, s1.P, rwS s1.t (m : Int) x.b.D)) := hR2
            clear hR2
            go_wp2_with (first | (go_at_call 74; refine hib.mono ?_; rintro e w' ⟨rfl, hw'⟩; have hw2 := hw'.symm; subst hw2; clear hw') | (go_at_call 75; refine ha.mono ?_; rintro e w' ⟨rfl, hw'⟩; have hw2 := hw'.symm; subst hw2; clear hw'))
            refine wp_region_noPanic ?_
            refine wp_region_held_drew (S := fun X => Blk X s.q 77 [.pointer (some ⟨s1.g, 0, none⟩), .int .i64 (s1.room : Int), .slice (some ⟨g, 0, none⟩) nl cap] ∧ X.cell? ⟨b, o + k, none⟩ = some (.int .i64 (m : Int)) ∧ X.cell? ⟨g, j * 4 + 1, none⟩ = some (.slice x.p x.b.D.length x.cap)) (by kernel_rfl) ⟨hbq.drew, hck, f1⟩ (fun hHeld => ?_)
            refine wpAnyH_take (i := 0) (v := ?_) rfl (by kernel_rfl) (by kernel_rfl) (by kernel_rfl) (fun _ _ _ h => h) (Or.inl ⟨by kernel_rfl, ?_⟩) hHeld ?_
            rotate_left
            · intro w' hSw; try dsimp only at hSw
              go_simp; try (with_reducible rfl)
            try simp only [Act.put, List.getElem_toArray, List.getElem_cons_succ, List.getElem_cons_zero, List.setIfInBounds_toArray, List.set_cons_zero, List.set_cons_succ]
            refine wpAnyH_take (i := 1) (v := ?_) rfl (by kernel_rfl) (by kernel_rfl) (by kernel_rfl) (fun _ _ _ h => h) (Or.inl ⟨by kernel_rfl, ?_⟩) hHeld ?_
            rotate_left
            · intro w' hSw; try dsimp only at hSw
              go_simp; try (with_reducible rfl)
            try simp only [Act.put, List.getElem_toArray, List.getElem_cons_succ, List.getElem_cons_zero, List.setIfInBounds_toArray, List.set_cons_zero, List.set_cons_succ]
            refine wpAnyH_take (i := 2) (v := ?_) rfl (by kernel_rfl) (by kernel_rfl) (by kernel_rfl) (fun _ _ _ h => h) (Or.inl ⟨by kernel_rfl, ?_⟩) hHeld ?_
            rotate_left
            · intro w' hSw; try dsimp only at hSw
              go_simp; try (with_reducible rfl)
            try simp only [Act.put, List.getElem_toArray, List.getElem_cons_succ, List.getElem_cons_zero, List.setIfInBounds_toArray, List.set_cons_zero, List.set_cons_succ]
            refine wpAnyH_take (i := 3) (v := ?_) rfl (by kernel_rfl) (by kernel_rfl) (by kernel_rfl) (fun _ _ _ h => h) (Or.inl ⟨by kernel_rfl, ?_⟩) hHeld ?_
            rotate_left
            · intro w' hSw; try dsimp only at hSw
              have d0 := hSw.1.cell' (i := 0) rfl
              go_simp; try (with_reducible rfl)
            try simp only [Act.put, List.getElem_toArray, List.getElem_cons_succ, List.getElem_cons_zero, List.setIfInBounds_toArray, List.set_cons_zero, List.set_cons_succ]
            refine wpAnyH_take (i := 4) (v := ?_) rfl (by kernel_rfl) (by kernel_rfl) (by kernel_rfl) (fun _ _ _ h => h) (Or.inl ⟨by kernel_rfl, ?_⟩) hHeld ?_
            rotate_left
            · intro w' hSw; try dsimp only at hSw
              go_simp; try (with_reducible rfl)
            try simp only [Act.put, List.getElem_toArray, List.getElem_cons_succ, List.getElem_cons_zero, List.setIfInBounds_toArray, List.set_cons_zero, List.set_cons_succ]
            refine wpAnyH_take (i := 5) (v := ?_) rfl (by kernel_rfl) (by kernel_rfl) (by kernel_rfl) (fun _ _ _ h => h) (Or.inl ⟨by kernel_rfl, ?_⟩) hHeld ?_
            rotate_left
            · intro w' hSw; try dsimp only at hSw
              go_simp; try (with_reducible rfl)
            try simp only [Act.put, List.getElem_toArray, List.getElem_cons_succ, List.getElem_cons_zero, List.setIfInBounds_toArray, List.set_cons_zero, List.set_cons_succ]
            refine wpAnyH_take (i := 6) (v := ?_) rfl (by kernel_rfl) (by kernel_rfl) (by kernel_rfl) (fun _ _ _ h => h) (Or.inl ⟨by kernel_rfl, ?_⟩) hHeld ?_
            rotate_left
            · intro w' hSw; try dsimp only at hSw
              go_simp; try (with_reducible rfl)
            try simp only [Act.put, List.getElem_toArray, List.getElem_cons_succ, List.getElem_cons_zero, List.setIfInBounds_toArray, List.set_cons_zero, List.set_cons_succ]
            refine wpAnyH_take (i := 7) (v := ?_) rfl (by kernel_rfl) (by kernel_rfl) (by kernel_rfl) (fun _ _ _ h => h) (Or.inl ⟨by kernel_rfl, ?_⟩) hHeld ?_
            rotate_left
            · intro w' hSw; try dsimp only at hSw
              have d0 := hSw.2.1
              go_simp; try (with_reducible rfl)
            try simp only [Act.put, List.getElem_toArray, List.getElem_cons_succ, List.getElem_cons_zero, List.setIfInBounds_toArray, List.set_cons_zero, List.set_cons_succ]
            refine wpAnyH_take (i := 8) (v := ?_) rfl (by kernel_rfl) (by kernel_rfl) (by kernel_rfl) (fun _ _ _ h => h) (Or.inl ⟨by kernel_rfl, ?_⟩) hHeld ?_
            rotate_left
            · intro w' hSw; try dsimp only at hSw
              go_simp; try (with_reducible rfl)
            try simp only [Act.put, List.getElem_toArray, List.getElem_cons_succ, List.getElem_cons_zero, List.setIfInBounds_toArray, List.set_cons_zero, List.set_cons_succ]
            refine wpAnyH_take (i := 9) (v := ?_) rfl (by kernel_rfl) (by kernel_rfl) (by kernel_rfl) (fun _ _ _ h => h) (Or.inl ⟨by kernel_rfl, ?_⟩) hHeld ?_
            rotate_left
            · intro w' hSw; try dsimp only at hSw
              go_simp; try (with_reducible rfl)
            try simp only [Act.put, List.getElem_toArray, List.getElem_cons_succ, List.getElem_cons_zero, List.setIfInBounds_toArray, List.set_cons_zero, List.set_cons_succ]
            refine wpAnyH_take (i := 10) (v := ?_) rfl (by kernel_rfl) (by kernel_rfl) (by kernel_rfl) (fun _ _ _ h => h) (Or.inl ⟨by kernel_rfl, ?_⟩) hHeld ?_
            rotate_left
            · intro w' hSw; try dsimp only at hSw
              go_simp; try (with_reducible rfl)
            try simp only [Act.put, List.getElem_toArray, List.getElem_cons_succ, List.getElem_cons_zero, List.setIfInBounds_toArray, List.set_cons_zero, List.set_cons_succ]
            refine wpAnyH_take (i := 11) (v := ?_) rfl (by kernel_rfl) (by kernel_rfl) (by kernel_rfl) (fun _ _ _ h => h) (Or.inl ⟨by kernel_rfl, ?_⟩) hHeld ?_
            rotate_left
            · intro w' hSw; try dsimp only at hSw
              have d0 := hSw.1.cell' (i := 2) rfl
              go_simp; try (with_reducible rfl)
            try simp only [Act.put, List.getElem_toArray, List.getElem_cons_succ, List.getElem_cons_zero, List.setIfInBounds_toArray, List.set_cons_zero, List.set_cons_succ]
            refine wpAnyH_take (i := 12) (v := ?_) rfl (by kernel_rfl) (by kernel_rfl) (by kernel_rfl) (fun _ _ _ h => h) (Or.inl ⟨by kernel_rfl, ?_⟩) hHeld ?_
            rotate_left
            · intro w' hSw; try dsimp only at hSw
              go_simp; try (with_reducible rfl)
            try simp only [Act.put, List.getElem_toArray, List.getElem_cons_succ, List.getElem_cons_zero, List.setIfInBounds_toArray, List.set_cons_zero, List.set_cons_succ]
            refine wpAnyH_take (i := 13) (v := ?_) rfl (by kernel_rfl) (by kernel_rfl) (by kernel_rfl) (fun _ _ _ h => h) (Or.inl ⟨by kernel_rfl, ?_⟩) hHeld ?_
            rotate_left
            · intro w' hSw; try dsimp only at hSw
              go_simp; try (with_reducible rfl)
            try simp only [Act.put, List.getElem_toArray, List.getElem_cons_succ, List.getElem_cons_zero, List.setIfInBounds_toArray, List.set_cons_zero, List.set_cons_succ]
            refine wpAnyH_take (i := 14) (v := ?_) rfl (by kernel_rfl) (by kernel_rfl) (by kernel_rfl) (fun _ _ _ h => h) (Or.inl ⟨by kernel_rfl, ?_⟩) hHeld ?_
            rotate_left
            · intro w' hSw; try dsimp only at hSw
              go_simp; try (with_reducible rfl)
            try simp only [Act.put, List.getElem_toArray, List.getElem_cons_succ, List.getElem_cons_zero, List.setIfInBounds_toArray, List.set_cons_zero, List.set_cons_succ]
            refine wpAnyH_take (i := 15) (v := ?_) rfl (by kernel_rfl) (by kernel_rfl) (by kernel_rfl) (fun _ _ _ h => h) (Or.inl ⟨by kernel_rfl, ?_⟩) hHeld ?_
            rotate_left
            · intro w' hSw; try dsimp only at hSw
              have d0 := hSw.2.2
              go_simp; try (with_reducible rfl)
            try simp only [Act.put, List.getElem_toArray, List.getElem_cons_succ, List.getElem_cons_zero, List.setIfInBounds_toArray, List.set_cons_zero, List.set_cons_succ]
            refine wpAnyH_ready (rs := [16]) (by kernel_rfl) (by simp) ?_
            refine AllReadyH.cons rfl (fun K hK => ?_) AllReadyH.nil
            go_simp
            refine (rwrite_any (h1.below ((Below.refl _ _).drew)).ref (m : Int) x.p x.b.D.length x.cap x.b.D ((h1.below ((Below.refl _ _).drew)).dat x hxL).1 (fun a ha e => by obtain ⟨cs, hc⟩ := (h1.dat x hxL).2 a ha; exact h1.u8_ne hc (.inr (.inr e))) hw1 hw2).mono ?_
            rintro e w5 ⟨rfl, V5, hR5⟩
            rw [HEE.out]
            have hA5 := (h1.below ((Below.refl _ _).drew)).disked hR5
            have hI5 := (hI1.kept ((Below.refl _ _).drew)).next hA5
            have kq' : Blk w5 s.q 77 [.pointer (some ⟨s1.g, 0, none⟩), .int .i64 (s1.room : Int), .slice (some ⟨g, 0, none⟩) nl cap] := by have := hA5.qin.blk; dsimp only at this; rwa [HV.out, HQ.out] at this
            have hck5 : w5.cell? ⟨b, o + k, none⟩ = some (.int .i64 (m : Int)) := by obtain ⟨b', o', hp', -, hc'⟩ := hI5.ii.at' (by omega); cases hp'; rw [← HM.out]; exact hc' k hkn
            have f5 : w5.cell? ⟨g, j * 4 + 1, none⟩ = some (.slice x.p x.b.D.length x.cap) := by exact hA5.qin.cellAt (s := { s1 with V := V5, t := rwS s1.t (m : Int) x.b.D }) HVL.out HXI.out (j := 1) (by omega) rfl
            refine hK.out _ _ ⟨kq', hck5, f5⟩ (fun hHeld => ?_)
            clear hK K
            try simp only [Act.put, List.getElem_toArray, List.getElem_cons_succ, List.getElem_cons_zero, List.setIfInBounds_toArray, List.set_cons_zero, List.set_cons_succ]
            refine wpAnyH_take (i := 17) (v := ?_) rfl (by kernel_rfl) (by kernel_rfl) (by kernel_rfl) (fun _ _ _ h => h) (Or.inl ⟨by kernel_rfl, ?_⟩) hHeld ?_
            rotate_left
            · intro w' hSw; try dsimp only at hSw
              go_simp; try (with_reducible rfl)
            try simp only [Act.put, List.getElem_toArray, List.getElem_cons_succ, List.getElem_cons_zero, List.setIfInBounds_toArray, List.set_cons_zero, List.set_cons_succ]
            refine wpAnyH_done (by kernel_rfl) ?_ _
            refine NoPanic.normal ?_
            clear hHeld
            go_wp2_with fail
            go_ret
            exact ⟨by rw [HR2.out]; rfl, _, A1.trans (hA5.drop ((Below.refl _ _).drew)), by rw [HR2.out]; rfl, by rw [HR2.out]⟩
    · have hkn2 : n = k := by omega
      have hR2 := HR1.out
      rw [List.drop_of_length_le (by omega), clQL] at hR2
      have HR2 : Hid (R = (0, s1.P, s1.t)) := hR2
      clear hR2
      subst hkn2
      go_wp2_with fail
      go_ret
      exact ⟨by rw [HR2.out]; rfl, s1, A1, by rw [HR2.out], by rw [HR2.out]⟩
end Go.Proofs.YtdmnddikcpfmfaaGreat
