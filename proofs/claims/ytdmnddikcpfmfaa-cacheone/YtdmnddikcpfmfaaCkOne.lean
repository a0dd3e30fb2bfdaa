/-
  The law of what is read, walked.
-/
import Derived.Test.YtdmnddikcpfmfaaCkOneW
import Derived.Test.YtdmnddikcpfmfaaCkSort
namespace Go.Proofs.Ytdmnddikcpfmfaa
open Go.RowKit Go.Maps Go.Shelf
theorem pinsOf_le {l : List BP} {N : Nat} (h : ∀ b ∈ l, b.pins ≤ N) : pinsOf l ≤ l.length * N := by
  induction l with
  | nil => simp [pinsOf]
  | cons a r ih =>
    have h1 := h a (List.mem_cons_self ..)
    have h2 := ih (fun b hb => h b (List.mem_cons_of_mem _ hb))
    have e : pinsOf (a :: r) = a.pins + pinsOf r := by simp [pinsOf]
    rw [e, List.length_cons, Nat.add_mul, Nat.one_mul]
    omega
theorem csync_all {w : World} {s : CS} (h : CIn w s) (cl : Int) (hsum : s.ds.writes + dirtyN s.P ≤ 1024) : Calls Try.prog 16 #[.pointer (some ⟨s.c, 0, none⟩), .int .i64 cl] w fun e w' =>
    e = .returned (.int .i64 (syncR s.P s.ds cl).1) ∧ ∃ s', CAfter w w' s s' ∧ s'.P = (syncR s.P s.ds cl).2.1 ∧ s'.ds = (syncR s.P s.ds cl).2.2 := by
  by_cases hc : cl = 1 ∨ cl = 2
  · rcases hc with rfl | rfl
    · exact csync_any sorts_own h 1 (.inl rfl) hsum
    · exact csync_any sorts_own h 2 (.inr rfl) hsum
  · rw [show syncR s.P s.ds cl = (1, s.P, s.ds) from if_pos hc]
    exact (csync_bad h cl hc).mono fun e w' ⟨he, hb⟩ => ⟨he, s, (CAfter.refl h).kept hb, rfl, rfl⟩
set_option maxRecDepth 100000 in
theorem one_bad (room : Int) (hr : ¬ (8 ≤ room ∧ room ≤ 1024)) (p : Option Addr) (n c : Nat) (w : World) : Calls Try.prog 3 #[.int .i64 room, .slice p n c] w fun e w' => e = .returned (.bool true) ∧ Below w.heap.size w w' := by
  have hnew := new_ok 60 (by omega) (by omega) w
  have hmk : ∀ (d : Nat) (W : World), (Instr.makeInterface 23 (.pointer (some ⟨d, 0, none⟩))).run Try.prog W = .ok (ramI d) W := fun _ _ => by kernel_rfl
  go_enter Try.func3, Try.ntmps3
  go_wp2_with (go_at_call 6; refine hnew.mono ?_; rintro e w1 ⟨hb1, d, sb, rfl, hd1, hs1, D1⟩)
  refine (cnew_no D1 room hr).mono ?_
  rintro e w2 ⟨rfl, hb2⟩
  go_wp2_with (go_at_call 8; refine (begun_any w2).mono ?_; rintro e w3 ⟨rfl, hb3⟩)
  go_ret
  exact ⟨rfl, bt (bt hb1 hb2) hb3⟩
set_option linter.unusedSimpArgs false in
set_option maxRecDepth 100000 in
set_option maxHeartbeats 8000000 in
theorem one_walk (r : Nat) (hr1 : 8 ≤ r) (hr2 : r ≤ 1024) (p : Option Addr) (n cp : Nat) (os : List CallA) (w : World) (ho : CallsSrc w p n cp os) : Calls Try.prog 3 #[.int .i64 (r : Int), .slice p n cp] w fun e w' => e = .returned (.bool true) ∧ Below w.heap.size w w' := by
  have hnew := new_ok 60 (by omega) (by omega) w
  have hmk : ∀ (d : Nat) (W : World), (Instr.makeInterface 23 (.pointer (some ⟨d, 0, none⟩))).run Try.prog W = .ok (ramI d) W := fun _ _ => by kernel_rfl
  have hmm := @run_makeMap Try.prog
  obtain ⟨K, hKn, hK2, hmin0⟩ := minRunD 200 n
  have hmin : ∀ (ts : Array TypeId) (t : TypeId) (W : World), (Builtin.min_ ts t #[.int .i64 (n : Int), .int .i64 200]).run Try.prog W = .ok (.int .i64 (K : Int)) W := hmin0
  have hsl := callsPre p n cp K hKn ho.cap
  clear hmin0
  go_enter Try.func3, Try.ntmps3
  go_wp2_with (go_at_call 6; refine hnew.mono ?_; rintro e w1 ⟨hb1, d, sb, rfl, hd1, hs1, D1⟩)
  refine (cnew_ok D1 r hr1 hr2).mono ?_
  rintro e w2 ⟨hb2, c, e', bm, rfl, hc2, he2, hbm2, C2⟩
  go_wp2_with (go_at_call 8; refine (begun_any w2).mono ?_; rintro e w3 ⟨rfl, hb3⟩)
  have hsz1 := hb1.size
  have U3 : CUp w.heap.size w w3 (newC d sb (.slice none 0 0) (newD 60) c e' bm r) := CUp.kept ⟨C2, bt hb1 hb2, by
    rintro k (e | e | e | e | e | e)
    · rw [e]; exact Nat.le_trans hsz1 hbm2
    · rw [e]; exact Nat.le_trans hsz1 he2
    · cases e
    · rw [e]; exact hd1
    · rw [e]; exact hs1
    · simp [newC, Value.ownBlock] at e, (bt hb1 hb2).size⟩ hb3
  have hM4 := MuIn.made w3
  have hb4 := below_alloc w3 (.map #[] 0)
  have T4 : OneW w.heap.size w (w3.alloc (.map #[] 0)) r d c w3.heap.size 0 (newC d sb (.slice none 0 0) (newD 60) c e' bm r) (fun _ => none) 0 := ⟨U3.kept hb4, hM4, fun hf => by have := U3.cin.lt hf; omega, U3.size, (by show _ = _; rfl), (by show _ = _; rfl), (by show _ = _; rfl), one_start r d sb _ c e' bm, Nat.le_refl _⟩
  clear hnew D1 hb1 hb2 hc2 he2 hbm2 C2 hsz1 hd1 hs1 hb3 hb4 U3 hM4
  generalize w3.alloc (.map #[] 0) = w4 at *
  generalize w3.heap.size = mb at *
  have hKi : (K : Int) ≤ 200 := by omega
  go_loopg [10, 58] K (fun j pv iv wr => ∃ (k : Nat) (s : CS) (mu : Int → Option (List Nat)) (mn : Nat), pv = .int .i64 (pinsOf s.P : Int) ∧ iv = .int .i64 (k : Int) ∧ k ≤ K ∧ j = K - k ∧ OneW w.heap.size w wr r d c mb k s mu mn)
  case atStart => exact ⟨0, _, _, 0, rfl, rfl, by omega, rfl, T4⟩
  case round =>
    clear T4
    obtain ⟨k, s, mu, mn, rfl, rfl, hk, rfl, TT⟩ := hrel
    by_cases hlt : k < K
    · have hki : (k : Int) < (K : Int) := by omega
      have ho' := ho.below TT.up.bel
      obtain ⟨ob, oo, rfl, hobl, hcs⟩ := ho'.at' (by omega)
      obtain ⟨x, hx⟩ : ∃ x, os[k]? = some x := ⟨_, List.getElem?_eq_getElem (by have := ho.len; omega)⟩
      have hcx := hcs k x hx
      have hxm := List.mem_of_getElem? hx
      have hxin := ho.ints x hxm
      have hrg := ho.rg x hxm
      obtain ⟨xd, xb, xf, xc, xq, xm, xcp, xcut, xs⟩ := x
      dsimp only at hcx hxin hrg
      have q0 := hcx 0 _ rfl
      rw [Nat.add_zero] at q0
      have q1 := hcx 1 _ rfl
      have q2 := hcx 2 _ rfl
      have q3 := hcx 3 _ rfl
      have q4 := hcx 4 _ rfl
      have q5 := hcx 5 _ rfl
      clear hcs ho' hx hcx
      have hbA := below_alloc wr (.cells #[.int .i64 xd, .int .i64 xb, .int .u8 (xf : Int), .int .i64 xc, .slice xq xm xcp, .int .i64 xcut] 34)
      have gA := Blk.new wr 34 [.int .i64 xd, .int .i64 xb, .int .u8 (xf : Int), .int .i64 xc, .slice xq xm xcp, .int .i64 xcut]
      have TA := TT.kept hbA
      have hpb : (pinsOf s.P : Int) ≤ 10000000 := by
        have h1 := pinsOf_le (fun b hb => (TT.one.ok b hb).p)
        have h2 := TT.up.cin.fit.len
        rw [TT.sr.out] at h2
        have h3 : s.P.length = s.L.length := by simp [CS.P]
        have h4 : s.P.length * k ≤ 1024 * 200 := Nat.mul_le_mul (by omega) (by omega)
        omega
      by_cases e0 : xd = 0
      · subst e0
        have hrd := cRead_any TA.up.cin xb (TA.wr (by omega)).2
        rw [TA.sc.out] at hrd
        obtain ⟨hf1, hf2, hf3⟩ := one_fetch TA.one s.room TA.lens xb
        have hrdc : rdC s.room s.P s.ds xb = if (fetC s.room s.P s.ds xb).1 = 0 then lastD (fetC s.room s.P s.ds xb).2.1 else [] := rfl
        generalize rdC s.room s.P s.ds xb = D at *
        generalize fetC s.room s.P s.ds xb = F at *
        obtain ⟨E1, l1, d1⟩ := F
        dsimp only at hrd hf1 hf2 hf3 hrdc
        go_wp2_with fail
        refine hrd.mono ?_
        rintro e w1 ⟨p1, c1, rfl, hin1, hu1, s1, A1, hP1, hD1⟩
        have T1 : OneW w.heap.size w w1 r d c mb (k + 1) s1 mu mn := TA.after A1 (by rw [hP1, hD1]; exact hf1.mono (Nat.le_succ _)) (Nat.le_succ _)
        have hps : pinsOf s1.P = pinsOf s.P := by rw [hP1]; exact hf2
        have gA1 := A1.blk TA.up.cin gA (by decide) (by decide) (by decide) (by decide)
        have b1 := gA1.cell' (i := 1) (v := .int .i64 xb) rfl
        obtain ⟨v1, hlk, hor⟩ := T1.mui.look hrg.1
        clear hrd A1 hf1 hP1 hD1
        rcases hor with ⟨hmn, rfl⟩ | ⟨D1, g1, hmn, rfl, hinD, huD⟩
        · rw [hmn] at hlk
          rw [show (none : Option (List Nat)).isSome = false from rfl] at hlk
          obtain ⟨w2, hmk2, hin2, hb2⟩ := make_zero w1
          have T2 := T1.kept hb2
          have hq : E1 = 0 → Calls Try.prog 10 #[.slice p1 D.length c1, .slice (some ⟨w1.heap.size, 0, none⟩) 256 256] w2 fun e w' => e = .returned (.bool true) ∧ w' = w2 := fun hE => by
            have h1 := equal_any p1 _ D.length c1 256 256 D z256 w2 (hin1.below hb2) hin2
            obtain ⟨pp, xx, e1, e2⟩ := hf3 hE
            rw [hrdc, if_pos hE, e1, lastD_snoc, e2, hmn, show ((none : Option (List Nat)).getD z256 == z256) = true from by simp] at h1
            rw [hrdc, if_pos hE, e1, lastD_snoc, e2, hmn]
            exact h1
          clear hrdc hf3
          generalize D.length = nD at *
          by_cases hE : E1 = 0
          · have hq' := hq hE
            subst hE
            clear hq
            go_wp2_with (go_at_call 10; refine hq'.mono ?_; rintro e w' ⟨rfl, hw'⟩; have hw2 := hw'.symm; subst hw2; clear hw')
            have hln := clen_any T2.up.cin
            rw [T2.sc.out] at hln
            have hlr : ¬ (r : Int) < (s1.P.length : Int) := by have := T2.up.cin.fit.len; rw [T2.sr.out] at this; rw [show s1.P.length = s1.L.length from by simp [CS.P]]; omega
            go_wp2_with (go_at_call 17; refine hln.mono ?_; rintro e w' ⟨rfl, hw'⟩; have hw2 := hw'.symm; subst hw2; clear hw')
            go_roundg (K - (k + 1))
            case measure => omega
            case rel => exact ⟨k + 1, s1, mu, mn, by rw [hps], by go_num, by omega, rfl, T2⟩
          · clear hq
            go_wp2_with fail
            have hln := clen_any T2.up.cin
            rw [T2.sc.out] at hln
            have hlr : ¬ (r : Int) < (s1.P.length : Int) := by have := T2.up.cin.fit.len; rw [T2.sr.out] at this; rw [show s1.P.length = s1.L.length from by simp [CS.P]]; omega
            go_wp2_with (go_at_call 17; refine hln.mono ?_; rintro e w' ⟨rfl, hw'⟩; have hw2 := hw'.symm; subst hw2; clear hw')
            go_roundg (K - (k + 1))
            case measure => omega
            case rel => exact ⟨k + 1, s1, mu, mn, by rw [hps], by go_num, by omega, rfl, T2⟩
        · rw [hmn] at hlk
          rw [show (some D1 : Option (List Nat)).isSome = true from rfl] at hlk
          have hq : E1 = 0 → Calls Try.prog 10 #[.slice p1 D.length c1, .slice (some ⟨g1, 0, none⟩) 256 256] w1 fun e w' => e = .returned (.bool true) ∧ w' = w1 := fun hE => by
            have h1 := equal_any p1 _ D.length c1 256 256 D D1 w1 hin1 hinD
            obtain ⟨pp, xx, e1, e2⟩ := hf3 hE
            rw [hrdc, if_pos hE, e1, lastD_snoc, e2, hmn, show ((some D1).getD z256 == D1) = true from by simp] at h1
            rw [hrdc, if_pos hE, e1, lastD_snoc, e2, hmn]
            exact h1
          clear hrdc hf3
          generalize D.length = nD at *
          by_cases hE : E1 = 0
          · have hq' := hq hE
            subst hE
            clear hq
            go_wp2_with (go_at_call 10; refine hq'.mono ?_; rintro e w' ⟨rfl, hw'⟩; have hw2 := hw'.symm; subst hw2; clear hw')
            have hln := clen_any T1.up.cin
            rw [T1.sc.out] at hln
            have hlr : ¬ (r : Int) < (s1.P.length : Int) := by have := T1.up.cin.fit.len; rw [T1.sr.out] at this; rw [show s1.P.length = s1.L.length from by simp [CS.P]]; omega
            go_wp2_with (go_at_call 17; refine hln.mono ?_; rintro e w' ⟨rfl, hw'⟩; have hw2 := hw'.symm; subst hw2; clear hw')
            go_roundg (K - (k + 1))
            case measure => omega
            case rel => exact ⟨k + 1, s1, mu, mn, by rw [hps], by go_num, by omega, rfl, T1⟩
          · clear hq
            go_wp2_with fail
            have hln := clen_any T1.up.cin
            rw [T1.sc.out] at hln
            have hlr : ¬ (r : Int) < (s1.P.length : Int) := by have := T1.up.cin.fit.len; rw [T1.sr.out] at this; rw [show s1.P.length = s1.L.length from by simp [CS.P]]; omega
            go_wp2_with (go_at_call 17; refine hln.mono ?_; rintro e w' ⟨rfl, hw'⟩; have hw2 := hw'.symm; subst hw2; clear hw')
            go_roundg (K - (k + 1))
            case measure => omega
            case rel => exact ⟨k + 1, s1, mu, mn, by rw [hps], by go_num, by omega, rfl, T1⟩
      by_cases e1 : xd = 1
      · subst e1
        go_wp2_with fail
        obtain ⟨g, hg⟩ : ∃ g, g = wr.heap.size := ⟨_, rfl⟩
        rw [← hg] at gA ⊢
        generalize wr.alloc (.cells #[.int .i64 1, .int .i64 xb, .int .u8 (xf : Int), .int .i64 xc, .slice xq xm xcp, .int .i64 xcut] 34) = wA at *
        clear hg hbA
        have TD := TA.kept (below_drewN (Below.refl _ wA) 1 : Below wA.heap.size wA wA.drew)
        refine wp_region_noPanic ?_
        refine wp_region_held_drew (S := fun W => Blk W g 34 [.int .i64 1, .int .i64 xb, .int .u8 (xf : Int), .int .i64 xc, .slice xq xm xcp, .int .i64 xcut]) (by kernel_rfl) gA.drew (fun hHeld => ?_)
        refine wpAnyH_take (i := 0) (v := ?_) rfl (by kernel_rfl) (by kernel_rfl) (by kernel_rfl) (fun _ _ _ h => h) (Or.inl ⟨by rfl, ?_⟩) hHeld ?_
        rotate_left
        · intro w' hSw; try dsimp only at hSw
          go_simp; try (with_reducible rfl)
        try simp only [Act.put, List.getElem_toArray, List.getElem_cons_succ, List.getElem_cons_zero, List.setIfInBounds_toArray, List.set_cons_zero, List.set_cons_succ]
        refine wpAnyH_take (i := 1) (v := ?_) rfl (by kernel_rfl) (by kernel_rfl) (by kernel_rfl) (fun _ _ _ h => h) (Or.inl ⟨by rfl, ?_⟩) hHeld ?_
        rotate_left
        · intro w' hSw; try dsimp only at hSw
          go_simp; try (with_reducible rfl)
        try simp only [Act.put, List.getElem_toArray, List.getElem_cons_succ, List.getElem_cons_zero, List.setIfInBounds_toArray, List.set_cons_zero, List.set_cons_succ]
        refine wpAnyH_take (i := 2) (v := ?_) rfl (by kernel_rfl) (by kernel_rfl) (by kernel_rfl) (fun _ _ _ h => h) (Or.inl ⟨by rfl, ?_⟩) hHeld ?_
        rotate_left
        · intro w' hSw; try dsimp only at hSw
          have q := hSw.cell' (i := 1) (v := .int .i64 xb) rfl
          go_simp; try (with_reducible rfl)
        try simp only [Act.put, List.getElem_toArray, List.getElem_cons_succ, List.getElem_cons_zero, List.setIfInBounds_toArray, List.set_cons_zero, List.set_cons_succ]
        refine wpAnyH_take (i := 3) (v := ?_) rfl (by kernel_rfl) (by kernel_rfl) (by kernel_rfl) (fun _ _ _ h => h) (Or.inl ⟨by rfl, ?_⟩) hHeld ?_
        rotate_left
        · intro w' hSw; try dsimp only at hSw
          go_simp; try (with_reducible rfl)
        try simp only [Act.put, List.getElem_toArray, List.getElem_cons_succ, List.getElem_cons_zero, List.setIfInBounds_toArray, List.set_cons_zero, List.set_cons_succ]
        refine wpAnyH_take (i := 4) (v := ?_) rfl (by kernel_rfl) (by kernel_rfl) (by kernel_rfl) (fun _ _ _ h => h) (Or.inl ⟨by rfl, ?_⟩) hHeld ?_
        rotate_left
        · intro w' hSw; try dsimp only at hSw
          have q := hSw.cell' (i := 2) (v := .int .u8 (xf : Int)) rfl
          go_simp; try (with_reducible rfl)
        try simp only [Act.put, List.getElem_toArray, List.getElem_cons_succ, List.getElem_cons_zero, List.setIfInBounds_toArray, List.set_cons_zero, List.set_cons_succ]
        refine wpAnyH_take (i := 6) (v := ?_) rfl (by kernel_rfl) (by kernel_rfl) (by kernel_rfl) (fun _ _ _ h => h) (Or.inl ⟨by rfl, ?_⟩) hHeld ?_
        rotate_left
        · intro w' hSw; try dsimp only at hSw
          go_simp; try (with_reducible rfl)
        try simp only [Act.put, List.getElem_toArray, List.getElem_cons_succ, List.getElem_cons_zero, List.setIfInBounds_toArray, List.set_cons_zero, List.set_cons_succ]
        refine wpAnyH_take (i := 7) (v := ?_) rfl (by kernel_rfl) (by kernel_rfl) (by kernel_rfl) (fun _ _ _ h => h) (Or.inl ⟨by rfl, ?_⟩) hHeld ?_
        rotate_left
        · intro w' hSw; try dsimp only at hSw
          have q := hSw.cell' (i := 3) (v := .int .i64 xc) rfl
          go_simp; try (with_reducible rfl)
        try simp only [Act.put, List.getElem_toArray, List.getElem_cons_succ, List.getElem_cons_zero, List.setIfInBounds_toArray, List.set_cons_zero, List.set_cons_succ]
        refine wpAnyH_ready (rs := [5]) (by kernel_rfl) (by simp) ?_
        refine AllReadyH.cons rfl (fun K hK => ?_) AllReadyH.nil
        rw [if_pos (by rfl)]
        go_simp
        refine (filled_any xf hrg.2 _).mono ?_
        rintro e w3 ⟨g3, rfl, hin3, hu3, hb3, hg3⟩
        refine hK.out _ _ (hHeld.kept hb3) (fun hHeld => ?_)
        clear hK K
        try simp only [Act.put, List.getElem_toArray, List.getElem_cons_succ, List.getElem_cons_zero, List.setIfInBounds_toArray, List.set_cons_zero, List.set_cons_succ]
        have T3 := TD.kept hb3
        have hwr := cwrite_any T3.up.cin xb _ _ _ _ ⟨hin3, hu3⟩ xc (T3.wr (by omega)).2
        rw [T3.sc.out] at hwr
        obtain ⟨ow1, ow2⟩ := one_write T3.one s.room xb (cyc [xf] 256) (cyc_length _ _) xc
        generalize wrC s.room s.P s.ds xb (cyc [xf] 256) xc = R at *
        obtain ⟨E1, l1, d1⟩ := R
        dsimp only at hwr ow1 ow2
        refine wpAnyH_ready (rs := [8]) (by kernel_rfl) (by simp) ?_
        refine AllReadyH.cons rfl (fun K hK => ?_) AllReadyH.nil
        rw [if_pos (by rfl)]
        go_simp
        refine hwr.mono ?_
        rintro e w4 ⟨rfl, s4, A4, hP4, hD4⟩
        refine hK.out _ _ (A4.blk T3.up.cin hHeld (by decide) (by decide) (by decide) (by decide)) (fun hHeld => ?_)
        clear hK K
        try simp only [Act.put, List.getElem_toArray, List.getElem_cons_succ, List.getElem_cons_zero, List.setIfInBounds_toArray, List.set_cons_zero, List.set_cons_succ]
        refine wpAnyH_take (i := 9) (v := ?_) rfl (by kernel_rfl) (by kernel_rfl) (by kernel_rfl) (fun _ _ _ h => h) (Or.inl ⟨by rfl, ?_⟩) hHeld ?_
        rotate_left
        · intro w' hSw; try dsimp only at hSw
          go_simp; try (with_reducible rfl)
        try simp only [Act.put, List.getElem_toArray, List.getElem_cons_succ, List.getElem_cons_zero, List.setIfInBounds_toArray, List.set_cons_zero, List.set_cons_succ]
        refine wpAnyH_done (by kernel_rfl) ?_ _
        refine NoPanic.normal ?_
        rw [← hP4, ← hD4] at ow1
        have hps : pinsOf s4.P = pinsOf s.P := by rw [hP4]; exact ow2
        clear hwr hin3 hu3 hP4 hD4 ow2
        by_cases hE : E1 = 0
        · subst hE
          rw [if_pos rfl] at ow1
          obtain ⟨hm4, hn4⟩ := T3.mui.next T3.up.cin A4 T3.nmb
          have gD : Blk w4.drew g 34 [.int .i64 1, .int .i64 xb, .int .u8 (xf : Int), .int .i64 xc, .slice xq xm xcp, .int .i64 xcut] := hHeld
          have U4 := T3.up.next A4
          have hbd : Below w4.heap.size w4 w4.drew := below_drewN (Below.refl _ _) 1
          have mnk := T3.mnk
          have hcc := A4.c.trans T3.sc.out
          have hdd := A4.d.trans T3.sd.out
          have hrr := A4.room.trans T3.sr.out
          have mbB := T3.mbB
          clear TD T3 TA TT A4
          go_wp2_with fail
          refine wp_region_noPanic ?_
          refine wp_region_held_drew (S := fun W => Blk W g 34 [.int .i64 1, .int .i64 xb, .int .u8 (xf : Int), .int .i64 xc, .slice xq xm xcp, .int .i64 xcut]) (by kernel_rfl) gD (fun hHeld => ?_)
          refine wpAnyH_take (i := 0) (v := ?_) rfl (by kernel_rfl) (by kernel_rfl) (by kernel_rfl) (fun _ _ _ h => h) (Or.inl ⟨by rfl, ?_⟩) hHeld ?_
          rotate_left
          · intro w' hSw; try dsimp only at hSw
            go_simp; try (with_reducible rfl)
          try simp only [Act.put, List.getElem_toArray, List.getElem_cons_succ, List.getElem_cons_zero, List.setIfInBounds_toArray, List.set_cons_zero, List.set_cons_succ]
          refine wpAnyH_take (i := 1) (v := ?_) rfl (by kernel_rfl) (by kernel_rfl) (by kernel_rfl) (fun _ _ _ h => h) (Or.inl ⟨by rfl, ?_⟩) hHeld ?_
          rotate_left
          · intro w' hSw; try dsimp only at hSw
            go_simp; try (with_reducible rfl)
          try simp only [Act.put, List.getElem_toArray, List.getElem_cons_succ, List.getElem_cons_zero, List.setIfInBounds_toArray, List.set_cons_zero, List.set_cons_succ]
          refine wpAnyH_take (i := 2) (v := ?_) rfl (by kernel_rfl) (by kernel_rfl) (by kernel_rfl) (fun _ _ _ h => h) (Or.inl ⟨by rfl, ?_⟩) hHeld ?_
          rotate_left
          · intro w' hSw; try dsimp only at hSw
            have q := hSw.cell' (i := 1) (v := .int .i64 xb) rfl
            go_simp; try (with_reducible rfl)
          try simp only [Act.put, List.getElem_toArray, List.getElem_cons_succ, List.getElem_cons_zero, List.setIfInBounds_toArray, List.set_cons_zero, List.set_cons_succ]
          refine wpAnyH_take (i := 3) (v := ?_) rfl (by kernel_rfl) (by kernel_rfl) (by kernel_rfl) (fun _ _ _ h => h) (Or.inl ⟨by rfl, ?_⟩) hHeld ?_
          rotate_left
          · intro w' hSw; try dsimp only at hSw
            go_simp; try (with_reducible rfl)
          try simp only [Act.put, List.getElem_toArray, List.getElem_cons_succ, List.getElem_cons_zero, List.setIfInBounds_toArray, List.set_cons_zero, List.set_cons_succ]
          refine wpAnyH_take (i := 4) (v := ?_) rfl (by kernel_rfl) (by kernel_rfl) (by kernel_rfl) (fun _ _ _ h => h) (Or.inl ⟨by rfl, ?_⟩) hHeld ?_
          rotate_left
          · intro w' hSw; try dsimp only at hSw
            have q := hSw.cell' (i := 2) (v := .int .u8 (xf : Int)) rfl
            go_simp; try (with_reducible rfl)
          try simp only [Act.put, List.getElem_toArray, List.getElem_cons_succ, List.getElem_cons_zero, List.setIfInBounds_toArray, List.set_cons_zero, List.set_cons_succ]
          refine wpAnyH_ready (rs := [5]) (by kernel_rfl) (by simp) ?_
          refine AllReadyH.cons rfl (fun K hK => ?_) AllReadyH.nil
          rw [if_pos (by rfl)]
          go_simp
          refine (filled_any xf hrg.2 _).mono ?_
          rintro e w5 ⟨g5, rfl, hin5, hu5, hb5, hg5⟩
          refine hK.out _ _ (hHeld.kept hb5) (fun hHeld => ?_)
          clear hK K
          try simp only [Act.put, List.getElem_toArray, List.getElem_cons_succ, List.getElem_cons_zero, List.setIfInBounds_toArray, List.set_cons_zero, List.set_cons_succ]
          have hm5 := (hm4.kept hbd).kept hb5
          have U5 := (U4.kept hbd).kept hb5
          refine wpAnyH_ready (rs := [6]) (by kernel_rfl) (by simp) ?_
          refine AllReadyH.cons rfl (fun K hK => ?_) AllReadyH.nil
          rw [if_pos (by rfl)]
          refine wp_put_must _ _ _ rfl rfl hm5 (by omega) hrg.1 rfl rfl hin5 hu5 ?_
          intro w6 hm6 hg6
          have hHB := hHeld.grown hg6 (fun e => by obtain ⟨es, cl, hoo⟩ := hm5.obj; have hee := Option.some.inj e; rw [← hee, show w5.heap[g]? = _ from hHeld] at hoo; cases hoo)
          refine hK.out _ _ hHB (fun hHeld => ?_)
          clear hK K
          try simp only [Act.put, List.getElem_toArray, List.getElem_cons_succ, List.getElem_cons_zero, List.setIfInBounds_toArray, List.set_cons_zero, List.set_cons_succ]
          refine wpAnyH_done (by kernel_rfl) ?_ _
          refine NoPanic.normal ?_
          have T6 : OneW w.heap.size w w6 r d c mb (k + 1) s4 (fun x => if x = xb then some (cyc [xf] 256) else mu x) (mn + 1) := ⟨⟨U5.cin.mapped2 hm5 hn4 hg6, U5.bel.grown hg6 U5.bel.size (fun j hj => by cases hj; exact mbB), U5.fp, Nat.le_trans U5.size hg6.size⟩, hm6, hn4, mbB, hcc, hdd, hrr, ow1, by omega⟩
          have hln := clen_any T6.up.cin
          rw [T6.sc.out] at hln
          have hlr : ¬ (r : Int) < (s4.P.length : Int) := by have := T6.up.cin.fit.len; rw [T6.sr.out] at this; rw [show s4.P.length = s4.L.length from by simp [CS.P]]; omega
          go_wp2_with (go_at_call 17; refine hln.mono ?_; rintro e w' ⟨rfl, hw'⟩; have hw2 := hw'.symm; subst hw2; clear hw')
          go_roundg (K - (k + 1))
          case measure => omega
          case rel => exact ⟨k + 1, s4, _, _, by rw [hps], by go_num, by omega, rfl, T6⟩
        · rw [if_neg hE] at ow1
          have T4 := T3.after A4 ow1 (Nat.le_succ _)
          go_wp2_with fail
          have hln := clen_any T4.up.cin
          rw [T4.sc.out] at hln
          have hlr : ¬ (r : Int) < (s4.P.length : Int) := by have := T4.up.cin.fit.len; rw [T4.sr.out] at this; rw [show s4.P.length = s4.L.length from by simp [CS.P]]; omega
          go_wp2_with (go_at_call 17; refine hln.mono ?_; rintro e w' ⟨rfl, hw'⟩; have hw2 := hw'.symm; subst hw2; clear hw')
          go_roundg (K - (k + 1))
          case measure => omega
          case rel => exact ⟨k + 1, s4, mu, mn, by rw [hps], by go_num, by omega, rfl, T4⟩
      by_cases e2 : xd = 2
      · subst e2
        have hpi := cPin_any TA.up.cin xb (TA.wr (by omega)).2 (fun b hb => by have := ((one_fetch TA.one s.room TA.lens xb).1.ok b hb).p; omega)
        rw [TA.sc.out] at hpi
        obtain ⟨op1, op2⟩ := one_pin TA.one s.room TA.lens xb
        generalize pinC s.room s.P s.ds xb = R at *
        obtain ⟨E1, l1, d1⟩ := R
        dsimp only at hpi op1 op2
        go_wp2_with fail
        refine hpi.mono ?_
        rintro e w4 ⟨rfl, s4, A4, hP4, hD4⟩
        have T4 : OneW w.heap.size w w4 r d c mb (k + 1) s4 mu mn := TA.after A4 (by rw [hP4, hD4]; exact op1) (Nat.le_succ _)
        rw [← hP4] at op2
        clear hpi op1 hP4 hD4
        by_cases hE : E1 = 0
        · subst hE
          rw [if_pos rfl] at op2
          go_wp2_with fail
          have hln := clen_any T4.up.cin
          rw [T4.sc.out] at hln
          have hlr : ¬ (r : Int) < (s4.P.length : Int) := by have := T4.up.cin.fit.len; rw [T4.sr.out] at this; rw [show s4.P.length = s4.L.length from by simp [CS.P]]; omega
          go_wp2_with (go_at_call 17; refine hln.mono ?_; rintro e w' ⟨rfl, hw'⟩; have hw2 := hw'.symm; subst hw2; clear hw')
          go_roundg (K - (k + 1))
          case measure => omega
          case rel => exact ⟨k + 1, s4, mu, mn, by rw [op2]; go_num, by go_num, by omega, rfl, T4⟩
        · rw [if_neg hE] at op2
          go_wp2_with fail
          have hln := clen_any T4.up.cin
          rw [T4.sc.out] at hln
          have hlr : ¬ (r : Int) < (s4.P.length : Int) := by have := T4.up.cin.fit.len; rw [T4.sr.out] at this; rw [show s4.P.length = s4.L.length from by simp [CS.P]]; omega
          go_wp2_with (go_at_call 17; refine hln.mono ?_; rintro e w' ⟨rfl, hw'⟩; have hw2 := hw'.symm; subst hw2; clear hw')
          go_roundg (K - (k + 1))
          case measure => omega
          case rel => exact ⟨k + 1, s4, mu, mn, by rw [op2]; rfl, by go_num, by omega, rfl, T4⟩
      by_cases e3 : xd = 3
      · subst e3
        have hpi := cUnpin_any TA.up.cin xb (fun b hb => by have := (TA.one.ok b hb).p; omega)
        rw [TA.sc.out] at hpi
        obtain ⟨op1, op2⟩ := one_unpin TA.one xb
        generalize unpC s.P s.ds.secs.length xb = R at *
        obtain ⟨E1, l1⟩ := R
        dsimp only at hpi op1 op2
        go_wp2_with fail
        refine hpi.mono ?_
        rintro e w4 ⟨rfl, s4, A4, hP4, hD4⟩
        have T4 : OneW w.heap.size w w4 r d c mb (k + 1) s4 mu mn := TA.after A4 (by rw [hP4, hD4]; exact op1.mono (Nat.le_succ _)) (Nat.le_succ _)
        rw [← hP4] at op2
        clear hpi op1 hP4 hD4
        by_cases hE : E1 = 0
        · subst hE
          rw [if_pos rfl] at op2
          go_wp2_with fail
          have hln := clen_any T4.up.cin
          rw [T4.sc.out] at hln
          have hlr : ¬ (r : Int) < (s4.P.length : Int) := by have := T4.up.cin.fit.len; rw [T4.sr.out] at this; rw [show s4.P.length = s4.L.length from by simp [CS.P]]; omega
          go_wp2_with (go_at_call 17; refine hln.mono ?_; rintro e w' ⟨rfl, hw'⟩; have hw2 := hw'.symm; subst hw2; clear hw')
          go_roundg (K - (k + 1))
          case measure => omega
          case rel => exact ⟨k + 1, s4, mu, mn, by rw [← op2]; go_num, by go_num, by omega, rfl, T4⟩
        · rw [if_neg hE] at op2
          go_wp2_with fail
          have hln := clen_any T4.up.cin
          rw [T4.sc.out] at hln
          have hlr : ¬ (r : Int) < (s4.P.length : Int) := by have := T4.up.cin.fit.len; rw [T4.sr.out] at this; rw [show s4.P.length = s4.L.length from by simp [CS.P]]; omega
          go_wp2_with (go_at_call 17; refine hln.mono ?_; rintro e w' ⟨rfl, hw'⟩; have hw2 := hw'.symm; subst hw2; clear hw')
          go_roundg (K - (k + 1))
          case measure => omega
          case rel => exact ⟨k + 1, s4, mu, mn, by rw [← op2]; rfl, by go_num, by omega, rfl, T4⟩
      by_cases e4 : xd = 4
      · subst e4
        have hIB : IntsBy (wr.alloc (.cells #[.int .i64 4, .int .i64 xb, .int .u8 (xf : Int), .int .i64 xc, .slice xq xm xcp, .int .i64 xcut] 34)) s xq xm xcp xs := ⟨(hxin.below TT.up.bel).below hbA, fun a ha h0 hf => by
          obtain ⟨b', o', e', hl', _⟩ := hxin.at' h0
          rw [e'] at ha; cases ha
          have := TA.up.fp _ hf
          dsimp only at this
          omega⟩
        have hpi := cClean_any TA.up.cin xq xm xcp xs hIB (TA.wr (by omega)).1
        rw [TA.sc.out] at hpi
        obtain ⟨op1, op2⟩ := one_cleanL xs TA.one
        generalize cleanL s.P s.ds xs = R at *
        obtain ⟨E1, l1, d1⟩ := R
        dsimp only at hpi op1 op2
        go_wp2_with fail
        refine hpi.mono ?_
        rintro e w4 ⟨rfl, s4, A4, hP4, hD4⟩
        have T4 : OneW w.heap.size w w4 r d c mb (k + 1) s4 mu mn := TA.after A4 (by rw [hP4, hD4]; exact op1.mono (Nat.le_succ _)) (Nat.le_succ _)
        rw [← hP4] at op2
        clear hpi op1 hP4 hD4 hIB
        have hln := clen_any T4.up.cin
        rw [T4.sc.out] at hln
        have hlr : ¬ (r : Int) < (s4.P.length : Int) := by have := T4.up.cin.fit.len; rw [T4.sr.out] at this; rw [show s4.P.length = s4.L.length from by simp [CS.P]]; omega
        go_wp2_with (go_at_call 17; refine hln.mono ?_; rintro e w' ⟨rfl, hw'⟩; have hw2 := hw'.symm; subst hw2; clear hw')
        go_roundg (K - (k + 1))
        case measure => omega
        case rel => exact ⟨k + 1, s4, mu, mn, by rw [op2], by go_num, by omega, rfl, T4⟩
      by_cases e5 : xd = 5
      · subst e5
        have hpi := csync_all TA.up.cin xc (TA.wr (by omega)).1
        rw [TA.sc.out] at hpi
        obtain ⟨op1, op2⟩ := one_sync TA.one xc
        generalize syncR s.P s.ds xc = R at *
        obtain ⟨E1, l1, d1⟩ := R
        dsimp only at hpi op1 op2
        go_wp2_with fail
        refine hpi.mono ?_
        rintro e w4 ⟨rfl, s4, A4, hP4, hD4⟩
        have T4 : OneW w.heap.size w w4 r d c mb (k + 1) s4 mu mn := TA.after A4 (by rw [hP4, hD4]; exact op1.mono (Nat.le_succ _)) (Nat.le_succ _)
        rw [← hP4] at op2
        clear hpi op1 hP4 hD4
        have hln := clen_any T4.up.cin
        rw [T4.sc.out] at hln
        have hlr : ¬ (r : Int) < (s4.P.length : Int) := by have := T4.up.cin.fit.len; rw [T4.sr.out] at this; rw [show s4.P.length = s4.L.length from by simp [CS.P]]; omega
        go_wp2_with (go_at_call 17; refine hln.mono ?_; rintro e w' ⟨rfl, hw'⟩; have hw2 := hw'.symm; subst hw2; clear hw')
        go_roundg (K - (k + 1))
        case measure => omega
        case rel => exact ⟨k + 1, s4, mu, mn, by rw [op2], by go_num, by omega, rfl, T4⟩
      · skip
        have T4 := TA.mono (Nat.le_succ k)
        have hln := clen_any T4.up.cin
        rw [T4.sc.out] at hln
        have hlr : ¬ (r : Int) < (s.P.length : Int) := by have := T4.up.cin.fit.len; rw [T4.sr.out] at this; rw [show s.P.length = s.L.length from by simp [CS.P]]; omega
        go_wp2_with (go_at_call 17; refine hln.mono ?_; rintro e w' ⟨rfl, hw'⟩; have hw2 := hw'.symm; subst hw2; clear hw')
        go_roundg (K - (k + 1))
        case measure => omega
        case rel => exact ⟨k + 1, s, mu, mn, rfl, by go_num, by omega, rfl, T4⟩
    · have hkK : k = K := by omega
      subst hkK
      by_cases hz : pinsOf s.P = 0
      · obtain ⟨oe1, oe2, oe3, oe4⟩ := one_end TT.one hz
        have hs1 := csync_all TT.up.cin 1 (TT.wr (by omega)).1
        obtain ⟨oa, _⟩ := one_sync TT.one 1
        rw [TT.sc.out, oe1] at hs1
        rw [show ((pinsOf s.P : Nat) : Int) = 0 from by rw [hz]; rfl]
        generalize syncR s.P s.ds 1 = R1 at *
        obtain ⟨E1, l1, d1⟩ := R1
        dsimp only at hs1 oe2 oe3 oe4 oa
        go_wp2_with fail
        refine hs1.mono ?_
        rintro e w5 ⟨rfl, s5, A5, hP5, hD5⟩
        rw [← hP5, ← hD5] at oe2 oe3 oe4 oa
        have T5 : OneW w.heap.size w w5 r d c mb k s5 mu mn := TT.after A5 oa (Nat.le_refl _)
        have hs2 := csync_all T5.up.cin 2 (T5.wr (by omega)).1
        rw [T5.sc.out, oe2] at hs2
        generalize syncR s5.P s5.ds 2 = R2 at *
        obtain ⟨E2, l2, d2⟩ := R2
        dsimp only at hs2 oe3 oe4
        clear hs1 A5 oa
        go_wp2_with fail
        refine hs2.mono ?_
        rintro e w6 ⟨rfl, s6, A6, hP6, hD6⟩
        rw [← hP6, ← hD6] at oe3
        rw [← hD6] at oe4
        have T6 : OneW w.heap.size w w6 r d c mb k s6 mu mn := T5.after A6 oe3 (Nat.le_refl _)
        clear hs2 A6 oe3 TT T5
        go_wp2_with fail
        go_loopg [158] 60 (fun j iv wr => ∃ m : Nat, iv = .int .i64 (m : Int) ∧ m ≤ 60 ∧ j = 60 - m ∧ OneW w.heap.size w wr r d c mb k s6 mu mn)
        case atStart => exact ⟨0, rfl, by omega, rfl, T6⟩
        case round =>
          clear T6
          obtain ⟨m, rfl, hm, rfl, T7⟩ := hrel
          by_cases hm60 : m < 60
          · have hmi : (m : Int) < 60 := by omega
            obtain ⟨v1, hlk, hor⟩ := T7.mui.look (t := (m : Int)) (by omega)
            rcases hor with ⟨hmn, rfl⟩ | ⟨D1, g1, hmn, rfl, hinD, huD⟩
            · rw [hmn] at hlk
              rw [show (none : Option (List Nat)).isSome = false from rfl] at hlk
              go_wp2_with fail
              go_roundg (60 - (m + 1))
              case measure => omega
              case rel => exact ⟨m + 1, by go_num, by omega, rfl, T7⟩
            · obtain ⟨r1, r2⟩ := oe4 m D1 hm60 hmn
              have hDl : D1.length = 256 := hinD.len
              rw [hmn] at hlk
              rw [show (some D1 : Option (List Nat)).isSome = true from rfl] at hlk
              have hrd := read_any T7.up.cin.base.disk (m : Int)
              rw [T7.sd.out, r1, r2, hDl] at hrd
              clear r1 r2 hDl
              go_wp2_with fail
              refine hrd.mono ?_
              rintro e w8 ⟨p8, c8, rfl, hin8, hb8, _⟩
              have hq := equal_any p8 _ 256 c8 256 256 D1 D1 w8 hin8 (hinD.below hb8)
              rw [show (D1 == D1) = true from by simp] at hq
              have T8 := T7.kept hb8
              clear hrd hin8
              go_wp2_with (go_at_call 10; refine hq.mono ?_; rintro e w' ⟨rfl, hw'⟩; have hw2 := hw'.symm; subst hw2; clear hw')
              go_roundg (60 - (m + 1))
              case measure => omega
              case rel => exact ⟨m + 1, by go_num, by omega, rfl, T8⟩
          · have hm60' : m = 60 := by omega
            subst hm60'
            go_wp2_with fail
            go_ret
            exact ⟨rfl, T7.up.bel⟩
      · have hz' : ¬ (pinsOf s.P : Int) = 0 := by omega
        go_wp2_with fail
        go_ret
        exact ⟨ret_bool (by simpa using hz'), TT.up.bel⟩
end Go.Proofs.Ytdmnddikcpfmfaa
