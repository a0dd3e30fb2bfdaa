/-
  The law of who goes first, walked.
-/
import Derived.Test.YtdmnddikcpfmfaaCkFstW
namespace Go.Proofs.Ytdmnddikcpfmfaa
open Go.RowKit Go.Maps Go.Shelf
theorem csync_allF {w : World} {s : CS} (h : CIn w s) (cl : Int) (hsum : s.ds.writes + dirtyN s.P ≤ 1024) : Calls Try.prog 16 #[.pointer (some ⟨s.c, 0, none⟩), .int .i64 cl] w fun e w' =>
    e = .returned (.int .i64 (syncR s.P s.ds cl).1) ∧ ∃ s', CAfter w w' s s' ∧ s'.P = (syncR s.P s.ds cl).2.1 ∧ s'.ds = (syncR s.P s.ds cl).2.2 := by
  by_cases hc : cl = 1 ∨ cl = 2
  · rcases hc with rfl | rfl
    · exact csync_any sorts_own h 1 (.inl rfl) hsum
    · exact csync_any sorts_own h 2 (.inr rfl) hsum
  · rw [show syncR s.P s.ds cl = (1, s.P, s.ds) from if_pos hc]
    exact (csync_bad h cl hc).mono fun e w' ⟨he, hb⟩ => ⟨he, s, (CAfter.refl h).kept hb, rfl, rfl⟩
set_option maxRecDepth 100000 in
theorem fst_bad (room : Int) (hr : ¬ (8 ≤ room ∧ room ≤ 1024)) (p : Option Addr) (n c : Nat) (w : World) : Calls Try.prog 4 #[.int .i64 room, .slice p n c] w fun e w' => e = .returned (.bool true) ∧ Below w.heap.size w w' := by
  have hnew := new_ok 60 (by omega) (by omega) w
  have hmk : ∀ (d : Nat) (W : World), (Instr.makeInterface 23 (.pointer (some ⟨d, 0, none⟩))).run Try.prog W = .ok (ramI d) W := fun _ _ => by kernel_rfl
  go_enter Try.func4, Try.ntmps4
  go_wp2_with (go_at_call 6; refine hnew.mono ?_; rintro e w1 ⟨hb1, d, sb, rfl, hd1, hs1, D1⟩)
  refine (cnew_no D1 room hr).mono ?_
  rintro e w2 ⟨rfl, hb2⟩
  go_wp2_with (go_at_call 8; refine (begun_any w2).mono ?_; rintro e w3 ⟨rfl, hb3⟩)
  go_ret
  exact ⟨rfl, bt (bt hb1 hb2) hb3⟩
set_option linter.unusedSimpArgs false in
set_option maxRecDepth 100000 in
set_option maxHeartbeats 8000000 in
theorem fst_walk (r : Nat) (hr1 : 8 ≤ r) (hr2 : r ≤ 1024) (p : Option Addr) (n cp : Nat) (os : List CallA) (w : World) (ho : CallsSrc w p n cp os) : Calls Try.prog 4 #[.int .i64 (r : Int), .slice p n cp] w fun e w' => e = .returned (.bool true) ∧ Below w.heap.size w w' := by
  obtain ⟨i0, hi, hz0, hz1, hz2⟩ := info_parts info3
  have hnew := new_ok 60 (by omega) (by omega) w
  have hmk : ∀ (d : Nat) (W : World), (Instr.makeInterface 23 (.pointer (some ⟨d, 0, none⟩))).run Try.prog W = .ok (ramI d) W := fun _ _ => by kernel_rfl
  obtain ⟨K, hKn, hK2, hmin0⟩ := minRunD 200 n
  have hmin : ∀ (ts : Array TypeId) (t : TypeId) (W : World), (Builtin.min_ ts t #[.int .i64 (n : Int), .int .i64 200]).run Try.prog W = .ok (.int .i64 (K : Int)) W := hmin0
  have hsl := callsPre p n cp K hKn ho.cap
  clear hmin0
  go_enter Try.func4, Try.ntmps4
  go_wp2_with (go_at_call 6; refine hnew.mono ?_; rintro e w1 ⟨hb1, d, sb, rfl, hd1, hs1, D1⟩)
  refine (cnew_ok D1 r hr1 hr2).mono ?_
  rintro e w2 ⟨hb2, c, e', bm, rfl, hc2, he2, hbm2, C2⟩
  go_wp2_with (go_at_call 8; refine (begun_any w2).mono ?_; rintro e w3 ⟨rfl, hb3⟩)
  have hsz1 := hb1.size
  have U3 : CUp w.heap.size w w3 (newC d sb (.slice none 0 0) (newD 60) c e' bm r) := CUp.kept ⟨C2, bt hb1 hb2, by
    rintro k (e | e | e | e | e | e)
    · rw [e]; exact Nat.le_trans hsz1 hbm2
    · rw [e]; exact Nat.le_trans hsz1 he2
    · cases e
    · rw [e]; exact hd1
    · rw [e]; exact hs1
    · simp [newC, Value.ownBlock] at e, (bt hb1 hb2).size⟩ hb3
  have T4 : FstW w.heap.size w w3 r d c 0 (newC d sb (.slice none 0 0) (newD 60) c e' bm r) := ⟨U3, (by show _ = _; rfl), (by show _ = _; rfl), (by show _ = _; rfl), fst_start r d sb _ c e' bm⟩
  clear hnew D1 hb1 hb2 hc2 he2 hbm2 C2 hsz1 hd1 hs1 hb3 U3
  have hKi : (K : Int) ≤ 200 := by omega
  go_loopg [55] K (fun j iv wr => ∃ (k : Nat) (s : CS), iv = .int .i64 (k : Int) ∧ k ≤ K ∧ j = K - k ∧ FstW w.heap.size w wr r d c k s)
  case atStart => exact ⟨0, _, rfl, by omega, rfl, T4⟩
  case round =>
    clear T4
    obtain ⟨k, s, rfl, hk, rfl, TT⟩ := hrel
    by_cases hlt : k < K
    · have hki : (k : Int) < (K : Int) := by omega
      have ho' := ho.below TT.up.bel
      obtain ⟨ob, oo, rfl, hobl, hcs⟩ := ho'.at' (by omega)
      obtain ⟨x, hx⟩ : ∃ x, os[k]? = some x := ⟨_, List.getElem?_eq_getElem (by have := ho.len; omega)⟩
      have hcx := hcs k x hx
      have hxm := List.mem_of_getElem? hx
      have hxin := ho.ints x hxm
      have hrg := ho.rg x hxm
      obtain ⟨xd, xb, xf, xc, xq, xm, xcp, xcut, xs⟩ := x
      dsimp only at hcx hxin hrg
      have q0 := hcx 0 _ rfl
      rw [Nat.add_zero] at q0
      have q1 := hcx 1 _ rfl
      have q2 := hcx 2 _ rfl
      have q3 := hcx 3 _ rfl
      have q4 := hcx 4 _ rfl
      have q5 := hcx 5 _ rfl
      clear hcs ho' hx hcx
      have hbA := below_alloc wr (.cells #[.int .i64 xd, .int .i64 xb, .int .u8 (xf : Int), .int .i64 xc, .slice xq xm xcp, .int .i64 xcut] 34)
      have gA := Blk.new wr 34 [.int .i64 xd, .int .i64 xb, .int .u8 (xf : Int), .int .i64 xc, .slice xq xm xcp, .int .i64 xcut]
      have hsA := World.size_alloc wr (.cells #[.int .i64 xd, .int .i64 xb, .int .u8 (xf : Int), .int .i64 xc, .slice xq xm xcp, .int .i64 xcut] 34)
      have TA := TT.kept hbA
      have hfB0 : ∀ k, fpC s k → k < wr.heap.size := fun k hk => TT.up.cin.lt hk
      have hdr := cDirty2 TA.up.cin
      rw [TA.sc.out] at hdr
      have hkd := TA.kd
      go_wp2_with fail
      obtain ⟨g, hg⟩ : ∃ g, g = wr.heap.size := ⟨_, rfl⟩
      rw [← hg] at gA ⊢
      obtain ⟨B1, hB1⟩ : ∃ B1, B1 = wr.heap.size := ⟨_, rfl⟩
      have hfB : ∀ k, fpC s k → k < B1 := hB1 ▸ hfB0
      rw [← hB1] at hsA
      generalize wr.alloc (.cells #[.int .i64 xd, .int .i64 xb, .int .u8 (xf : Int), .int .i64 xc, .slice xq xm xcp, .int .i64 xcut] 34) = wA at *
      clear hbA TT hfB0 hg hB1 q0 q1 q2 q3 q4 q5 hobl
      refine hdr.mono ?_
      rintro e w1 ⟨Bs, c1, p1, rfl, hbs, hin1, hb1, hlow⟩
      have htd := told_dirty TA.sl Bs c1 p1 hbs hin1 hlow
      have T1 := TA.kept hb1
      have gB := gA.kept hb1
      have hs1 := hb1.size
      clear hdr hbs hin1 hlow TA gA
      go_wp2_with fail
      refine htd.mono ?_
      rintro e w2 ⟨mp, mn, mc, rfl, hmet, hb2, hmnew⟩
      have T2 := T1.kept hb2
      have gC := gB.kept hb2
      have hs2 := hb2.size
      have hmN : ∀ a, mp = some a → B1 ≤ a.block := fun a ha => by have := hmnew a ha; omega
      clear htd T1 gB hb1 hb2 hmnew
      go_wp2_with fail
      go_loopg [12, 62] 60 (fun j pv iv wr => ∃ m : Nat, iv = .int .i64 (m : Int) ∧ m ≤ 60 ∧ j = 60 - m ∧ wr.ownsRow w2.heap.size 3 1 pv (pinKs s.P m).length (valsI (pinKs s.P m)) ∧ Below w2.heap.size w2 wr)
      case atStart => exact ⟨0, rfl, by omega, rfl, World.ownsRow_nil _ _ _ _, Below.refl _ _⟩
      case round =>
        obtain ⟨m, rfl, hm, rfl, hrow, hB3⟩ := hrel
        have T3 := T2.kept hB3
        by_cases hm60 : m < 60
        · have hmi : (m : Int) < 60 := by omega
          have hpn := cpins_any T3.up.cin m
          rw [T3.sc.out] at hpn
          have hpl := pinKs_len s.P m
          have hps := pinKs_succ s.P m
          go_wp2_with fail
          refine hpn.mono ?_
          rintro e w3 ⟨np, rfl, hnp, hb3⟩
          have hrow3 := owns_same hrow (fun j hj => hb3.block j (hrow.lt j hj).2)
          have hB4 := hB3.trans (hb3.mono hB3.size)
          rw [hnp] at hps
          clear hpn T3 hrow hB3 hb3 hnp
          by_cases hn0 : 0 < np
          · have hni : (0 : Int) < (np : Int) := by omega
            rw [if_pos (by simpa using hn0)] at hps
            obtain ⟨pv, cv, rfl⟩ := owns_slice hrow3
            generalize pinKs s.P m = X0 at *
            have HX : Hid (pinKs s.P (m + 1) = X0 ++ [(m : Int)]) := hps
            clear hps
            have hs4 := hB4.size
            go_wp2_with (at_builtin; refine wpList_append_own _ rfl (.tmp 69) (.tmp 71) 32 rfl w2.heap.size 3 i0 (.int .i64 0) 1 8 Try.underlying32 hi hz0 hz1 hz2 rfl (by decide) (.slice pv X0.length cv) X0.length (valsI X0) rfl (hrow3.alloc _) ⟨w3.heap.size, 0, none⟩ 1 1 [.int .i64 (m : Int)] rfl rfl (new_one w3 _) (by simp [Value.oneCell']) (by unfold maxLen; omega) (by omega) (by rw [World.size_alloc]; omega) ?_; intro v5 w5 hown5 hgrow5 _)
            have hba := below_alloc w3 (.cells #[.int .i64 (m : Int)] 3)
            have hbg : Below w2.heap.size w3 w5 := (hba.mono hs4).grown hgrow5 (by rw [World.size_alloc]; omega) (fun k hk => (hrow3.lt k hk).1)
            go_roundg (60 - (m + 1))
            case measure => omega
            case rel =>
              refine ⟨m + 1, by go_num, by omega, rfl, ?_, hB4.trans hbg⟩
              rw [HX.out, List.length_append, valsI_append]
              exact hown5
          · have hni : ¬ (0 : Int) < (np : Int) := by omega
            rw [if_neg (by simpa using hn0)] at hps
            go_wp2_with fail
            go_roundg (60 - (m + 1))
            case measure => omega
            case rel => exact ⟨m + 1, by go_num, by omega, rfl, by rw [hps]; exact hrow3, hB4⟩
        · have hm60' : m = 60 := by omega
          subst hm60'
          have hpl := pinKs_len s.P 60
          obtain ⟨pp, pc, rfl, hinP⟩ := in_of_ownsI hrow (by omega)
          have hpN : ∀ a, pp = some a → B1 ≤ a.block := fun a ha => by have := owns_new hrow a ha; omega
          have hcl := cloneD_any T3.up.cin.base.disk
          rw [T3.sd.out] at hcl
          have hrw0 := fun (m : Nat) (hm : m < 60) => T3.rd hm
          obtain ⟨pn, hpnE⟩ : ∃ pn, pn = (pinKs s.P 60).length := ⟨_, rfl⟩
          rw [← hpnE] at hinP ⊢
          have gD := gC.kept hB3
          have hmet3 := hmet.below hB3
          have hs3 := hB3.size
          clear hpnE hrow
          go_wp2_with fail
          refine hcl.mono ?_
          rintro e w3 ⟨hb3, d2, sb2, lv2, cap2, sp2, rfl, hfd, hD2⟩
          have T3 := T3.kept hb3
          have S3 : SideW w3 B1 g [.int .i64 xd, .int .i64 xb, .int .u8 (xf : Int), .int .i64 xc, .slice xq xm xcp, .int .i64 xcut] d2 sb2 lv2 _ pp pn pc (pinKs s.P 60) mp mn mc (dirtyKs 60 s.P 2) := ⟨gD.kept hb3, hD2, hinP.below hb3, hmet3.below hb3, fun k hk => by have := hfd k hk; omega, hpN, hmN⟩
          obtain ⟨ds2, HD2⟩ : ∃ x : DS, x = { s.ds with cap := cap2, sp := sp2 } := ⟨_, rfl⟩
          have hrw : ∀ m : Nat, m < 60 → readE ds2 (m : Int) = 0 ∧ readD ds2 (m : Int) = secD s.ds m := by rw [HD2]; exact hrw0
          rw [← HD2] at S3
          clear T2 hcl gC gD hmet hmet3 hinP hD2 hfd hB3 HD2 hrw0 hpl hs1 hs2 hs3 hsA hpN hmN hb3
          have gk := S3.box.cell' (i := 0) (v := .int .i64 xd) rfl
          have gk1 := S3.box.cell' (i := 1) (v := .int .i64 xb) rfl
          have gk3 := S3.box.cell' (i := 3) (v := .int .i64 xc) rfl
          have gk4 := S3.box.cell' (i := 4) (v := .slice xq xm xcp) rfl
          by_cases e0 : xd = 0
          · subst e0
            have hpi := cRead_any T3.up.cin xb (T3.wr (by omega)).2
            rw [T3.sc.out] at hpi
            obtain ⟨mu, hmu⟩ := T3.one
            have op1 := ((one_fetch hmu s.room T3.lens xb).1).mono (Nat.le_succ k)
            have hch : Chg true s.P s.ds _ := chg_fet hmu s.room xb
            generalize rdC s.room s.P s.ds xb = D at *
            generalize fetC s.room s.P s.ds xb = R at *
            obtain ⟨E1, l1, d1⟩ := R
            dsimp only at hpi op1 hch
            go_wp2_with fail
            refine hpi.mono ?_
            rintro e w4 ⟨p4, c4, rfl, hin4, hu4, s4, A4, hP4, hD4⟩
            rw [← hP4, ← hD4] at op1
            have hch0 : Chg true s.P s.ds s4.ds := by rw [hD4]; exact hch
            clear hch
            have hch := hch0
            clear hch0
            have T4 : FstW w.heap.size w w4 r d c (k + 1) s4 := T3.after A4 ⟨_, op1⟩
            have S4 := S3.next T3.up.cin A4 hfB
            clear hpi op1 hP4 hD4 A4 T3 S3 hmu
            have hsay := fun (m : Nat) (hm : secD s4.ds m ≠ secD s.ds m) => chg_says hkd hch hm
            clear hch
            go_wp2_with fail
            go_loopg [123] 60 (fun j iv wr => ∃ m : Nat, iv = .int .i64 (m : Int) ∧ m ≤ 60 ∧ j = 60 - m ∧ FstW w.heap.size w wr r d c (k + 1) s4 ∧ SideW wr B1 g [.int .i64 0, .int .i64 xb, .int .u8 (xf : Int), .int .i64 xc, .slice xq xm xcp, .int .i64 xcut] d2 sb2 lv2 ds2 pp pn pc (pinKs s.P 60) mp mn mc (dirtyKs 60 s.P 2))
            case atStart => exact ⟨0, rfl, by omega, rfl, T4, S4⟩
            case round =>
              clear T4 S4
              obtain ⟨m, rfl, hm, rfl, T5, S5⟩ := hrel
              by_cases hm60 : m < 60
              · have hmi : (m : Int) < 60 := by omega
                have hra := read_any S5.was (m : Int)
                rw [(hrw m hm60).1, (hrw m hm60).2] at hra
                go_wp2_with fail
                refine hra.mono ?_
                rintro e w6 ⟨p6, c6, rfl, hin6, hb6, _⟩
                have T6 := T5.kept hb6
                have S6 := S5.kept hb6
                have hrb := read_any T6.up.cin.base.disk (m : Int)
                rw [T6.sd.out, (T6.rd hm60).1, (T6.rd hm60).2] at hrb
                clear hra T5 S5
                go_wp2_with fail
                refine hrb.mono ?_
                rintro e w7 ⟨p7, c7, rfl, hin7, hb7, _⟩
                have T7 := T6.kept hb7
                have S7 := S6.kept hb7
                have hq := equal_any p6 p7 _ c6 _ c7 (secD s.ds m) (secD s4.ds m) w7 (hin6.below hb7) hin7
                clear hrb T6 S6 hin6 hin7
                have hsm := hsay m
                generalize secD s.ds m = X1 at *
                generalize secD s4.ds m = X2 at *
                generalize X1.length = n1 at *
                generalize X2.length = n2 at *
                by_cases he : X1 = X2
                · rw [show (X1 == X2) = true from by rw [he]; simp] at hq
                  clear he
                  go_wp2_with (go_at_call 10; refine hq.mono ?_; rintro e w' ⟨rfl, hw'⟩; have hw2 := hw'.symm; subst hw2; clear hw')
                  go_roundg (60 - (m + 1))
                  case measure => omega
                  case rel => exact ⟨m + 1, by go_num, by omega, rfl, T7, S7⟩
                · rw [show (X1 == X2) = false from by simpa using he] at hq
                  obtain ⟨hs1, hs2⟩ := hsm (fun e => he e.symm)
                  have HS2 : Hid (decide ((m : Int) ∈ dirtyKs 60 s.P 2) = false) := hs2 (by simp)
                  clear he hs2 hsm
                  have hco := contains_any pp pn pc (pinKs s.P 60) (m : Int) w7 S7.pin
                  rw [hs1] at hco
                  go_wp2_with (go_at_call 10; refine hq.mono ?_; rintro e w' ⟨rfl, hw'⟩; have hw2 := hw'.symm; subst hw2; clear hw')
                  refine hco.mono ?_
                  rintro e w8 ⟨rfl, hb8⟩
                  have T8 := T7.kept hb8
                  have S8 := S7.kept hb8
                  have hcm := contains_any mp mn mc (dirtyKs 60 s.P 2) (m : Int) w8 S8.met
                  clear hco T7 S7
                  rw [HS2.out] at hcm
                  go_wp2_with fail
                  refine hcm.mono ?_
                  rintro e w9 ⟨rfl, hb9⟩
                  have T9 := T8.kept hb9
                  have S9 := S8.kept hb9
                  clear T8 S8 hcm
                  go_wp2_with fail
                  go_roundg (60 - (m + 1))
                  case measure => omega
                  case rel => exact ⟨m + 1, by go_num, by omega, rfl, T9, S9⟩
              · have hm60' : m = 60 := by omega
                subst hm60'
                go_wp2_with fail
                go_roundg (K - (k + 1))
                case measure => omega
                case rel => exact ⟨k + 1, s4, by go_num, by omega, rfl, T5⟩
          by_cases e1 : xd = 1
          · subst e1
            go_wp2_with fail
            have hbd : Below w3.heap.size w3 w3.drew := below_drewN (Below.refl _ w3) 1
            have TD := T3.kept hbd
            have SD := S3.kept hbd
            have gD := SD.box
            refine wp_region_noPanic ?_
            refine wp_region_held_drew (S := fun W => Blk W g 34 [.int .i64 1, .int .i64 xb, .int .u8 (xf : Int), .int .i64 xc, .slice xq xm xcp, .int .i64 xcut]) (by kernel_rfl) gD (fun hHeld => ?_)
            refine wpAnyH_take (i := 0) (v := ?_) rfl (by kernel_rfl) (by kernel_rfl) (by kernel_rfl) (fun _ _ _ h => h) (Or.inl ⟨by rfl, ?_⟩) hHeld ?_
            rotate_left
            · intro w' hSw; try dsimp only at hSw
              go_simp; try (with_reducible rfl)
            try simp only [Act.put, List.getElem_toArray, List.getElem_cons_succ, List.getElem_cons_zero, List.setIfInBounds_toArray, List.set_cons_zero, List.set_cons_succ]
            refine wpAnyH_take (i := 1) (v := ?_) rfl (by kernel_rfl) (by kernel_rfl) (by kernel_rfl) (fun _ _ _ h => h) (Or.inl ⟨by rfl, ?_⟩) hHeld ?_
            rotate_left
            · intro w' hSw; try dsimp only at hSw
              go_simp; try (with_reducible rfl)
            try simp only [Act.put, List.getElem_toArray, List.getElem_cons_succ, List.getElem_cons_zero, List.setIfInBounds_toArray, List.set_cons_zero, List.set_cons_succ]
            refine wpAnyH_take (i := 2) (v := ?_) rfl (by kernel_rfl) (by kernel_rfl) (by kernel_rfl) (fun _ _ _ h => h) (Or.inl ⟨by rfl, ?_⟩) hHeld ?_
            rotate_left
            · intro w' hSw; try dsimp only at hSw
              have q := hSw.cell' (i := 1) (v := .int .i64 xb) rfl
              go_simp; try (with_reducible rfl)
            try simp only [Act.put, List.getElem_toArray, List.getElem_cons_succ, List.getElem_cons_zero, List.setIfInBounds_toArray, List.set_cons_zero, List.set_cons_succ]
            refine wpAnyH_take (i := 3) (v := ?_) rfl (by kernel_rfl) (by kernel_rfl) (by kernel_rfl) (fun _ _ _ h => h) (Or.inl ⟨by rfl, ?_⟩) hHeld ?_
            rotate_left
            · intro w' hSw; try dsimp only at hSw
              go_simp; try (with_reducible rfl)
            try simp only [Act.put, List.getElem_toArray, List.getElem_cons_succ, List.getElem_cons_zero, List.setIfInBounds_toArray, List.set_cons_zero, List.set_cons_succ]
            refine wpAnyH_take (i := 4) (v := ?_) rfl (by kernel_rfl) (by kernel_rfl) (by kernel_rfl) (fun _ _ _ h => h) (Or.inl ⟨by rfl, ?_⟩) hHeld ?_
            rotate_left
            · intro w' hSw; try dsimp only at hSw
              have q := hSw.cell' (i := 2) (v := .int .u8 (xf : Int)) rfl
              go_simp; try (with_reducible rfl)
            try simp only [Act.put, List.getElem_toArray, List.getElem_cons_succ, List.getElem_cons_zero, List.setIfInBounds_toArray, List.set_cons_zero, List.set_cons_succ]
            refine wpAnyH_take (i := 6) (v := ?_) rfl (by kernel_rfl) (by kernel_rfl) (by kernel_rfl) (fun _ _ _ h => h) (Or.inl ⟨by rfl, ?_⟩) hHeld ?_
            rotate_left
            · intro w' hSw; try dsimp only at hSw
              go_simp; try (with_reducible rfl)
            try simp only [Act.put, List.getElem_toArray, List.getElem_cons_succ, List.getElem_cons_zero, List.setIfInBounds_toArray, List.set_cons_zero, List.set_cons_succ]
            refine wpAnyH_take (i := 7) (v := ?_) rfl (by kernel_rfl) (by kernel_rfl) (by kernel_rfl) (fun _ _ _ h => h) (Or.inl ⟨by rfl, ?_⟩) hHeld ?_
            rotate_left
            · intro w' hSw; try dsimp only at hSw
              have q := hSw.cell' (i := 3) (v := .int .i64 xc) rfl
              go_simp; try (with_reducible rfl)
            try simp only [Act.put, List.getElem_toArray, List.getElem_cons_succ, List.getElem_cons_zero, List.setIfInBounds_toArray, List.set_cons_zero, List.set_cons_succ]
            refine wpAnyH_ready (rs := [5]) (by kernel_rfl) (by simp) ?_
            refine AllReadyH.cons rfl (fun K hK => ?_) AllReadyH.nil
            rw [if_pos (by rfl)]
            go_simp
            refine (filled_any xf hrg.2 _).mono ?_
            rintro e w5 ⟨g5, rfl, hin5, hu5, hb5, hg5⟩
            refine hK.out _ _ (hHeld.kept hb5) (fun hHeld => ?_)
            clear hK K
            try simp only [Act.put, List.getElem_toArray, List.getElem_cons_succ, List.getElem_cons_zero, List.setIfInBounds_toArray, List.set_cons_zero, List.set_cons_succ]
            have T5 := TD.kept hb5
            have S5 := SD.kept hb5
            have hwr := cwrite_any T5.up.cin xb _ _ _ _ ⟨hin5, hu5⟩ xc (T5.wr (by omega)).2
            rw [T5.sc.out] at hwr
            obtain ⟨mu, hmu⟩ := T5.one
            have ow1 := (one_write hmu s.room xb (cyc [xf] 256) (cyc_length _ _) xc).1
            have hch := chg_wr hmu s.room xb (cyc [xf] 256) xc
            generalize wrC s.room s.P s.ds xb (cyc [xf] 256) xc = R at *
            obtain ⟨E1, l1, d1⟩ := R
            dsimp only at hwr ow1 hch
            refine wpAnyH_ready (rs := [8]) (by kernel_rfl) (by simp) ?_
            refine AllReadyH.cons rfl (fun K hK => ?_) AllReadyH.nil
            rw [if_pos (by rfl)]
            go_simp
            refine hwr.mono ?_
            rintro e w4 ⟨rfl, s4, A4, hP4, hD4⟩
            refine hK.out _ _ (A4.blk T5.up.cin hHeld (by decide) (by decide) (by decide) (by decide)) (fun hHeld => ?_)
            clear hK K
            try simp only [Act.put, List.getElem_toArray, List.getElem_cons_succ, List.getElem_cons_zero, List.setIfInBounds_toArray, List.set_cons_zero, List.set_cons_succ]
            refine wpAnyH_done (by kernel_rfl) ?_ _
            refine NoPanic.normal ?_
            rw [← hP4, ← hD4] at ow1
            rw [← hD4] at hch
            have T4 : FstW w.heap.size w w4 r d c (k + 1) s4 := T5.after A4 ⟨_, ow1⟩
            have S4 := S5.next T5.up.cin A4 hfB
            clear hwr hin5 hu5 hP4 hD4 ow1 A4 T5 S5 TD SD T3 S3 hmu gD
            have hsay := fun (m : Nat) (hm : secD s4.ds m ≠ secD s.ds m) => chg_says hkd hch hm
            clear hch
            go_wp2_with fail
            go_loopg [123] 60 (fun j iv wr => ∃ m : Nat, iv = .int .i64 (m : Int) ∧ m ≤ 60 ∧ j = 60 - m ∧ FstW w.heap.size w wr r d c (k + 1) s4 ∧ SideW wr B1 g [.int .i64 1, .int .i64 xb, .int .u8 (xf : Int), .int .i64 xc, .slice xq xm xcp, .int .i64 xcut] d2 sb2 lv2 ds2 pp pn pc (pinKs s.P 60) mp mn mc (dirtyKs 60 s.P 2))
            case atStart => exact ⟨0, rfl, by omega, rfl, T4, S4⟩
            case round =>
              clear T4 S4
              obtain ⟨m, rfl, hm, rfl, T5, S5⟩ := hrel
              by_cases hm60 : m < 60
              · have hmi : (m : Int) < 60 := by omega
                have hra := read_any S5.was (m : Int)
                rw [(hrw m hm60).1, (hrw m hm60).2] at hra
                go_wp2_with fail
                refine hra.mono ?_
                rintro e w6 ⟨p6, c6, rfl, hin6, hb6, _⟩
                have T6 := T5.kept hb6
                have S6 := S5.kept hb6
                have hrb := read_any T6.up.cin.base.disk (m : Int)
                rw [T6.sd.out, (T6.rd hm60).1, (T6.rd hm60).2] at hrb
                clear hra T5 S5
                go_wp2_with fail
                refine hrb.mono ?_
                rintro e w7 ⟨p7, c7, rfl, hin7, hb7, _⟩
                have T7 := T6.kept hb7
                have S7 := S6.kept hb7
                have hq := equal_any p6 p7 _ c6 _ c7 (secD s.ds m) (secD s4.ds m) w7 (hin6.below hb7) hin7
                clear hrb T6 S6 hin6 hin7
                have hsm := hsay m
                generalize secD s.ds m = X1 at *
                generalize secD s4.ds m = X2 at *
                generalize X1.length = n1 at *
                generalize X2.length = n2 at *
                by_cases he : X1 = X2
                · rw [show (X1 == X2) = true from by rw [he]; simp] at hq
                  clear he
                  go_wp2_with (go_at_call 10; refine hq.mono ?_; rintro e w' ⟨rfl, hw'⟩; have hw2 := hw'.symm; subst hw2; clear hw')
                  go_roundg (60 - (m + 1))
                  case measure => omega
                  case rel => exact ⟨m + 1, by go_num, by omega, rfl, T7, S7⟩
                · rw [show (X1 == X2) = false from by simpa using he] at hq
                  obtain ⟨hs1, hs2⟩ := hsm (fun e => he e.symm)
                  have HS2 : Hid (decide ((m : Int) ∈ dirtyKs 60 s.P 2) = false) := hs2 (by simp)
                  clear he hs2 hsm
                  have hco := contains_any pp pn pc (pinKs s.P 60) (m : Int) w7 S7.pin
                  rw [hs1] at hco
                  go_wp2_with (go_at_call 10; refine hq.mono ?_; rintro e w' ⟨rfl, hw'⟩; have hw2 := hw'.symm; subst hw2; clear hw')
                  refine hco.mono ?_
                  rintro e w8 ⟨rfl, hb8⟩
                  have T8 := T7.kept hb8
                  have S8 := S7.kept hb8
                  have hcm := contains_any mp mn mc (dirtyKs 60 s.P 2) (m : Int) w8 S8.met
                  clear hco T7 S7
                  rw [HS2.out] at hcm
                  go_wp2_with fail
                  refine hcm.mono ?_
                  rintro e w9 ⟨rfl, hb9⟩
                  have T9 := T8.kept hb9
                  have S9 := S8.kept hb9
                  clear T8 S8 hcm
                  go_wp2_with fail
                  go_roundg (60 - (m + 1))
                  case measure => omega
                  case rel => exact ⟨m + 1, by go_num, by omega, rfl, T9, S9⟩
              · have hm60' : m = 60 := by omega
                subst hm60'
                go_wp2_with fail
                go_roundg (K - (k + 1))
                case measure => omega
                case rel => exact ⟨k + 1, s4, by go_num, by omega, rfl, T5⟩
          by_cases e2 : xd = 2
          · subst e2
            have hpi := cPin_any T3.up.cin xb (T3.wr (by omega)).2 (fun b hb => by obtain ⟨mu, hmu⟩ := T3.one; have := ((one_fetch hmu s.room T3.lens xb).1.ok b hb).p; omega)
            rw [T3.sc.out] at hpi
            obtain ⟨mu, hmu⟩ := T3.one
            have op1 := (one_pin hmu s.room T3.lens xb).1
            have hch : Chg true s.P s.ds _ := chg_fet hmu s.room xb
            rw [show (fetC s.room s.P s.ds xb).2.2 = (pinC s.room s.P s.ds xb).2.2 from rfl] at hch
            generalize pinC s.room s.P s.ds xb = R at *
            obtain ⟨E1, l1, d1⟩ := R
            dsimp only at hpi op1 hch
            go_wp2_with fail
            refine hpi.mono ?_
            rintro e w4 ⟨rfl, s4, A4, hP4, hD4⟩
            rw [← hP4, ← hD4] at op1
            have hch0 : Chg true s.P s.ds s4.ds := by rw [hD4]; exact hch
            clear hch
            have hch := hch0
            clear hch0
            have T4 : FstW w.heap.size w w4 r d c (k + 1) s4 := T3.after A4 ⟨_, op1⟩
            have S4 := S3.next T3.up.cin A4 hfB
            clear hpi op1 hP4 hD4 A4 T3 S3 hmu
            have hsay := fun (m : Nat) (hm : secD s4.ds m ≠ secD s.ds m) => chg_says hkd hch hm
            clear hch
            go_wp2_with fail
            go_loopg [123] 60 (fun j iv wr => ∃ m : Nat, iv = .int .i64 (m : Int) ∧ m ≤ 60 ∧ j = 60 - m ∧ FstW w.heap.size w wr r d c (k + 1) s4 ∧ SideW wr B1 g [.int .i64 2, .int .i64 xb, .int .u8 (xf : Int), .int .i64 xc, .slice xq xm xcp, .int .i64 xcut] d2 sb2 lv2 ds2 pp pn pc (pinKs s.P 60) mp mn mc (dirtyKs 60 s.P 2))
            case atStart => exact ⟨0, rfl, by omega, rfl, T4, S4⟩
            case round =>
              clear T4 S4
              obtain ⟨m, rfl, hm, rfl, T5, S5⟩ := hrel
              by_cases hm60 : m < 60
              · have hmi : (m : Int) < 60 := by omega
                have hra := read_any S5.was (m : Int)
                rw [(hrw m hm60).1, (hrw m hm60).2] at hra
                go_wp2_with fail
                refine hra.mono ?_
                rintro e w6 ⟨p6, c6, rfl, hin6, hb6, _⟩
                have T6 := T5.kept hb6
                have S6 := S5.kept hb6
                have hrb := read_any T6.up.cin.base.disk (m : Int)
                rw [T6.sd.out, (T6.rd hm60).1, (T6.rd hm60).2] at hrb
                clear hra T5 S5
                go_wp2_with fail
                refine hrb.mono ?_
                rintro e w7 ⟨p7, c7, rfl, hin7, hb7, _⟩
                have T7 := T6.kept hb7
                have S7 := S6.kept hb7
                have hq := equal_any p6 p7 _ c6 _ c7 (secD s.ds m) (secD s4.ds m) w7 (hin6.below hb7) hin7
                clear hrb T6 S6 hin6 hin7
                have hsm := hsay m
                generalize secD s.ds m = X1 at *
                generalize secD s4.ds m = X2 at *
                generalize X1.length = n1 at *
                generalize X2.length = n2 at *
                by_cases he : X1 = X2
                · rw [show (X1 == X2) = true from by rw [he]; simp] at hq
                  clear he
                  go_wp2_with (go_at_call 10; refine hq.mono ?_; rintro e w' ⟨rfl, hw'⟩; have hw2 := hw'.symm; subst hw2; clear hw')
                  go_roundg (60 - (m + 1))
                  case measure => omega
                  case rel => exact ⟨m + 1, by go_num, by omega, rfl, T7, S7⟩
                · rw [show (X1 == X2) = false from by simpa using he] at hq
                  obtain ⟨hs1, hs2⟩ := hsm (fun e => he e.symm)
                  have HS2 : Hid (decide ((m : Int) ∈ dirtyKs 60 s.P 2) = false) := hs2 (by simp)
                  clear he hs2 hsm
                  have hco := contains_any pp pn pc (pinKs s.P 60) (m : Int) w7 S7.pin
                  rw [hs1] at hco
                  go_wp2_with (go_at_call 10; refine hq.mono ?_; rintro e w' ⟨rfl, hw'⟩; have hw2 := hw'.symm; subst hw2; clear hw')
                  refine hco.mono ?_
                  rintro e w8 ⟨rfl, hb8⟩
                  have T8 := T7.kept hb8
                  have S8 := S7.kept hb8
                  have hcm := contains_any mp mn mc (dirtyKs 60 s.P 2) (m : Int) w8 S8.met
                  clear hco T7 S7
                  rw [HS2.out] at hcm
                  go_wp2_with fail
                  refine hcm.mono ?_
                  rintro e w9 ⟨rfl, hb9⟩
                  have T9 := T8.kept hb9
                  have S9 := S8.kept hb9
                  clear T8 S8 hcm
                  go_wp2_with fail
                  go_roundg (60 - (m + 1))
                  case measure => omega
                  case rel => exact ⟨m + 1, by go_num, by omega, rfl, T9, S9⟩
              · have hm60' : m = 60 := by omega
                subst hm60'
                go_wp2_with fail
                go_roundg (K - (k + 1))
                case measure => omega
                case rel => exact ⟨k + 1, s4, by go_num, by omega, rfl, T5⟩
          by_cases e3 : xd = 3
          · subst e3
            have hpi := cUnpin_any T3.up.cin xb (fun b hb => by obtain ⟨mu, hmu⟩ := T3.one; have := (hmu.ok b hb).p; omega)
            rw [T3.sc.out] at hpi
            obtain ⟨mu, hmu⟩ := T3.one
            have op1 := (one_unpin hmu xb).1.mono (Nat.le_succ k)
            have hch : Chg true s.P s.ds _ := Chg.refl _ _ _
            generalize unpC s.P s.ds.secs.length xb = R at *
            obtain ⟨E1, l1⟩ := R
            dsimp only at hpi op1 hch
            go_wp2_with fail
            refine hpi.mono ?_
            rintro e w4 ⟨rfl, s4, A4, hP4, hD4⟩
            rw [← hP4, ← hD4] at op1
            have hch0 : Chg true s.P s.ds s4.ds := by rw [hD4]; exact hch
            clear hch
            have hch := hch0
            clear hch0
            have T4 : FstW w.heap.size w w4 r d c (k + 1) s4 := T3.after A4 ⟨_, op1⟩
            have S4 := S3.next T3.up.cin A4 hfB
            clear hpi op1 hP4 hD4 A4 T3 S3 hmu
            have hsay := fun (m : Nat) (hm : secD s4.ds m ≠ secD s.ds m) => chg_says hkd hch hm
            clear hch
            go_wp2_with fail
            go_loopg [123] 60 (fun j iv wr => ∃ m : Nat, iv = .int .i64 (m : Int) ∧ m ≤ 60 ∧ j = 60 - m ∧ FstW w.heap.size w wr r d c (k + 1) s4 ∧ SideW wr B1 g [.int .i64 3, .int .i64 xb, .int .u8 (xf : Int), .int .i64 xc, .slice xq xm xcp, .int .i64 xcut] d2 sb2 lv2 ds2 pp pn pc (pinKs s.P 60) mp mn mc (dirtyKs 60 s.P 2))
            case atStart => exact ⟨0, rfl, by omega, rfl, T4, S4⟩
            case round =>
              clear T4 S4
              obtain ⟨m, rfl, hm, rfl, T5, S5⟩ := hrel
              by_cases hm60 : m < 60
              · have hmi : (m : Int) < 60 := by omega
                have hra := read_any S5.was (m : Int)
                rw [(hrw m hm60).1, (hrw m hm60).2] at hra
                go_wp2_with fail
                refine hra.mono ?_
                rintro e w6 ⟨p6, c6, rfl, hin6, hb6, _⟩
                have T6 := T5.kept hb6
                have S6 := S5.kept hb6
                have hrb := read_any T6.up.cin.base.disk (m : Int)
                rw [T6.sd.out, (T6.rd hm60).1, (T6.rd hm60).2] at hrb
                clear hra T5 S5
                go_wp2_with fail
                refine hrb.mono ?_
                rintro e w7 ⟨p7, c7, rfl, hin7, hb7, _⟩
                have T7 := T6.kept hb7
                have S7 := S6.kept hb7
                have hq := equal_any p6 p7 _ c6 _ c7 (secD s.ds m) (secD s4.ds m) w7 (hin6.below hb7) hin7
                clear hrb T6 S6 hin6 hin7
                have hsm := hsay m
                generalize secD s.ds m = X1 at *
                generalize secD s4.ds m = X2 at *
                generalize X1.length = n1 at *
                generalize X2.length = n2 at *
                by_cases he : X1 = X2
                · rw [show (X1 == X2) = true from by rw [he]; simp] at hq
                  clear he
                  go_wp2_with (go_at_call 10; refine hq.mono ?_; rintro e w' ⟨rfl, hw'⟩; have hw2 := hw'.symm; subst hw2; clear hw')
                  go_roundg (60 - (m + 1))
                  case measure => omega
                  case rel => exact ⟨m + 1, by go_num, by omega, rfl, T7, S7⟩
                · rw [show (X1 == X2) = false from by simpa using he] at hq
                  obtain ⟨hs1, hs2⟩ := hsm (fun e => he e.symm)
                  have HS2 : Hid (decide ((m : Int) ∈ dirtyKs 60 s.P 2) = false) := hs2 (by simp)
                  clear he hs2 hsm
                  have hco := contains_any pp pn pc (pinKs s.P 60) (m : Int) w7 S7.pin
                  rw [hs1] at hco
                  go_wp2_with (go_at_call 10; refine hq.mono ?_; rintro e w' ⟨rfl, hw'⟩; have hw2 := hw'.symm; subst hw2; clear hw')
                  refine hco.mono ?_
                  rintro e w8 ⟨rfl, hb8⟩
                  have T8 := T7.kept hb8
                  have S8 := S7.kept hb8
                  have hcm := contains_any mp mn mc (dirtyKs 60 s.P 2) (m : Int) w8 S8.met
                  clear hco T7 S7
                  rw [HS2.out] at hcm
                  go_wp2_with fail
                  refine hcm.mono ?_
                  rintro e w9 ⟨rfl, hb9⟩
                  have T9 := T8.kept hb9
                  have S9 := S8.kept hb9
                  clear T8 S8 hcm
                  go_wp2_with fail
                  go_roundg (60 - (m + 1))
                  case measure => omega
                  case rel => exact ⟨m + 1, by go_num, by omega, rfl, T9, S9⟩
              · have hm60' : m = 60 := by omega
                subst hm60'
                go_wp2_with fail
                go_roundg (K - (k + 1))
                case measure => omega
                case rel => exact ⟨k + 1, s4, by go_num, by omega, rfl, T5⟩
          by_cases e4 : xd = 4
          · subst e4
            have hIB : IntsBy w3 s xq xm xcp xs := ⟨hxin.below T3.up.bel, fun a ha h0 hf => by
              obtain ⟨b', o', e', hl', _⟩ := hxin.at' h0
              rw [e'] at ha; cases ha
              have := T3.up.fp _ hf
              dsimp only at this
              omega⟩
            have hpi := cClean_any T3.up.cin xq xm xcp xs hIB (T3.wr (by omega)).1
            rw [T3.sc.out] at hpi
            obtain ⟨mu, hmu⟩ := T3.one
            have op1 := (one_cleanL xs hmu).1.mono (Nat.le_succ k)
            have hch : Chg false s.P s.ds _ := chg_cleanL xs hmu
            clear hIB
            generalize cleanL s.P s.ds xs = R at *
            obtain ⟨E1, l1, d1⟩ := R
            dsimp only at hpi op1 hch
            go_wp2_with fail
            refine hpi.mono ?_
            rintro e w4 ⟨rfl, s4, A4, hP4, hD4⟩
            rw [← hP4, ← hD4] at op1
            have hch0 : Chg false s.P s.ds s4.ds := by rw [hD4]; exact hch
            clear hch
            have hch := hch0
            clear hch0
            have T4 : FstW w.heap.size w w4 r d c (k + 1) s4 := T3.after A4 ⟨_, op1⟩
            have S4 := S3.next T3.up.cin A4 hfB
            clear hpi op1 hP4 hD4 A4 T3 S3 hmu
            have hsay := fun (m : Nat) (hm : secD s4.ds m ≠ secD s.ds m) => chg_says hkd hch hm
            clear hch
            go_wp2_with fail
            go_loopg [123] 60 (fun j iv wr => ∃ m : Nat, iv = .int .i64 (m : Int) ∧ m ≤ 60 ∧ j = 60 - m ∧ FstW w.heap.size w wr r d c (k + 1) s4 ∧ SideW wr B1 g [.int .i64 4, .int .i64 xb, .int .u8 (xf : Int), .int .i64 xc, .slice xq xm xcp, .int .i64 xcut] d2 sb2 lv2 ds2 pp pn pc (pinKs s.P 60) mp mn mc (dirtyKs 60 s.P 2))
            case atStart => exact ⟨0, rfl, by omega, rfl, T4, S4⟩
            case round =>
              clear T4 S4
              obtain ⟨m, rfl, hm, rfl, T5, S5⟩ := hrel
              by_cases hm60 : m < 60
              · have hmi : (m : Int) < 60 := by omega
                have hra := read_any S5.was (m : Int)
                rw [(hrw m hm60).1, (hrw m hm60).2] at hra
                go_wp2_with fail
                refine hra.mono ?_
                rintro e w6 ⟨p6, c6, rfl, hin6, hb6, _⟩
                have T6 := T5.kept hb6
                have S6 := S5.kept hb6
                have hrb := read_any T6.up.cin.base.disk (m : Int)
                rw [T6.sd.out, (T6.rd hm60).1, (T6.rd hm60).2] at hrb
                clear hra T5 S5
                go_wp2_with fail
                refine hrb.mono ?_
                rintro e w7 ⟨p7, c7, rfl, hin7, hb7, _⟩
                have T7 := T6.kept hb7
                have S7 := S6.kept hb7
                have hq := equal_any p6 p7 _ c6 _ c7 (secD s.ds m) (secD s4.ds m) w7 (hin6.below hb7) hin7
                clear hrb T6 S6 hin6 hin7
                have hsm := hsay m
                generalize secD s.ds m = X1 at *
                generalize secD s4.ds m = X2 at *
                generalize X1.length = n1 at *
                generalize X2.length = n2 at *
                by_cases he : X1 = X2
                · rw [show (X1 == X2) = true from by rw [he]; simp] at hq
                  clear he
                  go_wp2_with (go_at_call 10; refine hq.mono ?_; rintro e w' ⟨rfl, hw'⟩; have hw2 := hw'.symm; subst hw2; clear hw')
                  go_roundg (60 - (m + 1))
                  case measure => omega
                  case rel => exact ⟨m + 1, by go_num, by omega, rfl, T7, S7⟩
                · rw [show (X1 == X2) = false from by simpa using he] at hq
                  obtain ⟨hs1, hs2⟩ := hsm (fun e => he e.symm)
                  clear he hs2 hsm
                  have hco := contains_any pp pn pc (pinKs s.P 60) (m : Int) w7 S7.pin
                  rw [hs1] at hco
                  go_wp2_with (go_at_call 10; refine hq.mono ?_; rintro e w' ⟨rfl, hw'⟩; have hw2 := hw'.symm; subst hw2; clear hw')
                  refine hco.mono ?_
                  rintro e w8 ⟨rfl, hb8⟩
                  have T8 := T7.kept hb8
                  have S8 := S7.kept hb8
                  have hcm := contains_any mp mn mc (dirtyKs 60 s.P 2) (m : Int) w8 S8.met
                  clear hco T7 S7
                  cases hdm : decide ((m : Int) ∈ dirtyKs 60 s.P 2)
                  · rw [hdm] at hcm
                    go_wp2_with fail
                    refine hcm.mono ?_
                    rintro e w9 ⟨rfl, hb9⟩
                    have T9 := T8.kept hb9
                    have S9 := S8.kept hb9
                    have gk := S9.box.cell' (i := 0) (v := .int .i64 4) rfl
                    clear T8 S8 hcm
                    go_wp2_with fail
                    go_roundg (60 - (m + 1))
                    case measure => omega
                    case rel => exact ⟨m + 1, by go_num, by omega, rfl, T9, S9⟩
                  · rw [hdm] at hcm
                    go_wp2_with fail
                    refine hcm.mono ?_
                    rintro e w9 ⟨rfl, hb9⟩
                    have T9 := T8.kept hb9
                    have S9 := S8.kept hb9
                    have gk := S9.box.cell' (i := 0) (v := .int .i64 4) rfl
                    clear T8 S8 hcm
                    go_wp2_with fail
                    go_roundg (60 - (m + 1))
                    case measure => omega
                    case rel => exact ⟨m + 1, by go_num, by omega, rfl, T9, S9⟩
              · have hm60' : m = 60 := by omega
                subst hm60'
                go_wp2_with fail
                go_roundg (K - (k + 1))
                case measure => omega
                case rel => exact ⟨k + 1, s4, by go_num, by omega, rfl, T5⟩
          by_cases e5 : xd = 5
          · subst e5
            have hpi := csync_allF T3.up.cin xc (T3.wr (by omega)).1
            rw [T3.sc.out] at hpi
            obtain ⟨mu, hmu⟩ := T3.one
            have op1 := (one_sync hmu xc).1.mono (Nat.le_succ k)
            have hch : Chg false s.P s.ds _ := chg_sync hmu xc
            generalize syncR s.P s.ds xc = R at *
            obtain ⟨E1, l1, d1⟩ := R
            dsimp only at hpi op1 hch
            go_wp2_with fail
            refine hpi.mono ?_
            rintro e w4 ⟨rfl, s4, A4, hP4, hD4⟩
            rw [← hP4, ← hD4] at op1
            have hch0 : Chg false s.P s.ds s4.ds := by rw [hD4]; exact hch
            clear hch
            have hch := hch0
            clear hch0
            have T4 : FstW w.heap.size w w4 r d c (k + 1) s4 := T3.after A4 ⟨_, op1⟩
            have S4 := S3.next T3.up.cin A4 hfB
            clear hpi op1 hP4 hD4 A4 T3 S3 hmu
            have hsay := fun (m : Nat) (hm : secD s4.ds m ≠ secD s.ds m) => chg_says hkd hch hm
            clear hch
            go_wp2_with fail
            go_loopg [123] 60 (fun j iv wr => ∃ m : Nat, iv = .int .i64 (m : Int) ∧ m ≤ 60 ∧ j = 60 - m ∧ FstW w.heap.size w wr r d c (k + 1) s4 ∧ SideW wr B1 g [.int .i64 5, .int .i64 xb, .int .u8 (xf : Int), .int .i64 xc, .slice xq xm xcp, .int .i64 xcut] d2 sb2 lv2 ds2 pp pn pc (pinKs s.P 60) mp mn mc (dirtyKs 60 s.P 2))
            case atStart => exact ⟨0, rfl, by omega, rfl, T4, S4⟩
            case round =>
              clear T4 S4
              obtain ⟨m, rfl, hm, rfl, T5, S5⟩ := hrel
              by_cases hm60 : m < 60
              · have hmi : (m : Int) < 60 := by omega
                have hra := read_any S5.was (m : Int)
                rw [(hrw m hm60).1, (hrw m hm60).2] at hra
                go_wp2_with fail
                refine hra.mono ?_
                rintro e w6 ⟨p6, c6, rfl, hin6, hb6, _⟩
                have T6 := T5.kept hb6
                have S6 := S5.kept hb6
                have hrb := read_any T6.up.cin.base.disk (m : Int)
                rw [T6.sd.out, (T6.rd hm60).1, (T6.rd hm60).2] at hrb
                clear hra T5 S5
                go_wp2_with fail
                refine hrb.mono ?_
                rintro e w7 ⟨p7, c7, rfl, hin7, hb7, _⟩
                have T7 := T6.kept hb7
                have S7 := S6.kept hb7
                have hq := equal_any p6 p7 _ c6 _ c7 (secD s.ds m) (secD s4.ds m) w7 (hin6.below hb7) hin7
                clear hrb T6 S6 hin6 hin7
                have hsm := hsay m
                generalize secD s.ds m = X1 at *
                generalize secD s4.ds m = X2 at *
                generalize X1.length = n1 at *
                generalize X2.length = n2 at *
                by_cases he : X1 = X2
                · rw [show (X1 == X2) = true from by rw [he]; simp] at hq
                  clear he
                  go_wp2_with (go_at_call 10; refine hq.mono ?_; rintro e w' ⟨rfl, hw'⟩; have hw2 := hw'.symm; subst hw2; clear hw')
                  go_roundg (60 - (m + 1))
                  case measure => omega
                  case rel => exact ⟨m + 1, by go_num, by omega, rfl, T7, S7⟩
                · rw [show (X1 == X2) = false from by simpa using he] at hq
                  obtain ⟨hs1, hs2⟩ := hsm (fun e => he e.symm)
                  clear he hs2 hsm
                  have hco := contains_any pp pn pc (pinKs s.P 60) (m : Int) w7 S7.pin
                  rw [hs1] at hco
                  go_wp2_with (go_at_call 10; refine hq.mono ?_; rintro e w' ⟨rfl, hw'⟩; have hw2 := hw'.symm; subst hw2; clear hw')
                  refine hco.mono ?_
                  rintro e w8 ⟨rfl, hb8⟩
                  have T8 := T7.kept hb8
                  have S8 := S7.kept hb8
                  have hcm := contains_any mp mn mc (dirtyKs 60 s.P 2) (m : Int) w8 S8.met
                  clear hco T7 S7
                  cases hdm : decide ((m : Int) ∈ dirtyKs 60 s.P 2)
                  · rw [hdm] at hcm
                    go_wp2_with fail
                    refine hcm.mono ?_
                    rintro e w9 ⟨rfl, hb9⟩
                    have T9 := T8.kept hb9
                    have S9 := S8.kept hb9
                    have gk := S9.box.cell' (i := 0) (v := .int .i64 5) rfl
                    clear T8 S8 hcm
                    go_wp2_with fail
                    go_roundg (60 - (m + 1))
                    case measure => omega
                    case rel => exact ⟨m + 1, by go_num, by omega, rfl, T9, S9⟩
                  · rw [hdm] at hcm
                    go_wp2_with fail
                    refine hcm.mono ?_
                    rintro e w9 ⟨rfl, hb9⟩
                    have T9 := T8.kept hb9
                    have S9 := S8.kept hb9
                    have gk := S9.box.cell' (i := 0) (v := .int .i64 5) rfl
                    clear T8 S8 hcm
                    go_wp2_with fail
                    go_roundg (60 - (m + 1))
                    case measure => omega
                    case rel => exact ⟨m + 1, by go_num, by omega, rfl, T9, S9⟩
              · have hm60' : m = 60 := by omega
                subst hm60'
                go_wp2_with fail
                go_roundg (K - (k + 1))
                case measure => omega
                case rel => exact ⟨k + 1, s4, by go_num, by omega, rfl, T5⟩
          by_cases e6 : xd = 6
          · subst e6
            have hpi := cFlush_any T3.up.cin
            rw [T3.sc.out] at hpi
            go_wp2_with fail
            refine hpi.mono ?_
            rintro e w4 ⟨rfl, hb4⟩
            have T4 := (T3.kept hb4).mono (Nat.le_succ k)
            have S4 := S3.kept hb4
            have hch : Chg true s.P s.ds s.ds := Chg.refl _ _ _
            clear hpi T3 S3
            clear hch
            go_wp2_with fail
            go_loopg [123] 60 (fun j iv wr => ∃ m : Nat, iv = .int .i64 (m : Int) ∧ m ≤ 60 ∧ j = 60 - m ∧ FstW w.heap.size w wr r d c (k + 1) s ∧ SideW wr B1 g [.int .i64 6, .int .i64 xb, .int .u8 (xf : Int), .int .i64 xc, .slice xq xm xcp, .int .i64 xcut] d2 sb2 lv2 ds2 pp pn pc (pinKs s.P 60) mp mn mc (dirtyKs 60 s.P 2))
            case atStart => exact ⟨0, rfl, by omega, rfl, T4, S4⟩
            case round =>
              clear T4 S4
              obtain ⟨m, rfl, hm, rfl, T5, S5⟩ := hrel
              by_cases hm60 : m < 60
              · have hmi : (m : Int) < 60 := by omega
                have hra := read_any S5.was (m : Int)
                rw [(hrw m hm60).1, (hrw m hm60).2] at hra
                go_wp2_with fail
                refine hra.mono ?_
                rintro e w6 ⟨p6, c6, rfl, hin6, hb6, _⟩
                have T6 := T5.kept hb6
                have S6 := S5.kept hb6
                have hrb := read_any T6.up.cin.base.disk (m : Int)
                rw [T6.sd.out, (T6.rd hm60).1, (T6.rd hm60).2] at hrb
                clear hra T5 S5
                go_wp2_with fail
                refine hrb.mono ?_
                rintro e w7 ⟨p7, c7, rfl, hin7, hb7, _⟩
                have T7 := T6.kept hb7
                have S7 := S6.kept hb7
                have hq := equal_any p6 p7 _ c6 _ c7 (secD s.ds m) (secD s.ds m) w7 (hin6.below hb7) hin7
                clear hrb T6 S6 hin6 hin7
                generalize secD s.ds m = X1 at *
                generalize X1.length = n1 at *
                rw [show (X1 == X1) = true from by simp] at hq
                go_wp2_with (go_at_call 10; refine hq.mono ?_; rintro e w' ⟨rfl, hw'⟩; have hw2 := hw'.symm; subst hw2; clear hw')
                go_roundg (60 - (m + 1))
                case measure => omega
                case rel => exact ⟨m + 1, by go_num, by omega, rfl, T7, S7⟩
              · have hm60' : m = 60 := by omega
                subst hm60'
                go_wp2_with fail
                go_roundg (K - (k + 1))
                case measure => omega
                case rel => exact ⟨k + 1, s, by go_num, by omega, rfl, T5⟩
          · skip
            have z0 : (xd == 0) = false := by simpa using e0
            have z1 : (xd == 1) = false := by simpa using e1
            have z2 : (xd == 2) = false := by simpa using e2
            have z3 : (xd == 3) = false := by simpa using e3
            have z4 : (xd == 4) = false := by simpa using e4
            have z5 : (xd == 5) = false := by simpa using e5
            have z6 : (xd == 6) = false := by simpa using e6
            have T4 := T3.mono (Nat.le_succ k)
            have S4 := S3
            have hch : Chg true s.P s.ds s.ds := Chg.refl _ _ _
            clear T3 S3
            clear hch
            go_wp2_with fail
            go_loopg [123] 60 (fun j iv wr => ∃ m : Nat, iv = .int .i64 (m : Int) ∧ m ≤ 60 ∧ j = 60 - m ∧ FstW w.heap.size w wr r d c (k + 1) s ∧ SideW wr B1 g [.int .i64 xd, .int .i64 xb, .int .u8 (xf : Int), .int .i64 xc, .slice xq xm xcp, .int .i64 xcut] d2 sb2 lv2 ds2 pp pn pc (pinKs s.P 60) mp mn mc (dirtyKs 60 s.P 2))
            case atStart => exact ⟨0, rfl, by omega, rfl, T4, S4⟩
            case round =>
              clear T4 S4
              obtain ⟨m, rfl, hm, rfl, T5, S5⟩ := hrel
              by_cases hm60 : m < 60
              · have hmi : (m : Int) < 60 := by omega
                have hra := read_any S5.was (m : Int)
                rw [(hrw m hm60).1, (hrw m hm60).2] at hra
                go_wp2_with fail
                refine hra.mono ?_
                rintro e w6 ⟨p6, c6, rfl, hin6, hb6, _⟩
                have T6 := T5.kept hb6
                have S6 := S5.kept hb6
                have hrb := read_any T6.up.cin.base.disk (m : Int)
                rw [T6.sd.out, (T6.rd hm60).1, (T6.rd hm60).2] at hrb
                clear hra T5 S5
                go_wp2_with fail
                refine hrb.mono ?_
                rintro e w7 ⟨p7, c7, rfl, hin7, hb7, _⟩
                have T7 := T6.kept hb7
                have S7 := S6.kept hb7
                have hq := equal_any p6 p7 _ c6 _ c7 (secD s.ds m) (secD s.ds m) w7 (hin6.below hb7) hin7
                clear hrb T6 S6 hin6 hin7
                generalize secD s.ds m = X1 at *
                generalize X1.length = n1 at *
                rw [show (X1 == X1) = true from by simp] at hq
                go_wp2_with (go_at_call 10; refine hq.mono ?_; rintro e w' ⟨rfl, hw'⟩; have hw2 := hw'.symm; subst hw2; clear hw')
                go_roundg (60 - (m + 1))
                case measure => omega
                case rel => exact ⟨m + 1, by go_num, by omega, rfl, T7, S7⟩
              · have hm60' : m = 60 := by omega
                subst hm60'
                go_wp2_with fail
                go_roundg (K - (k + 1))
                case measure => omega
                case rel => exact ⟨k + 1, s, by go_num, by omega, rfl, T5⟩
    · have hkK : k = K := by omega
      subst hkK
      go_wp2_with fail
      go_ret
      exact ⟨rfl, TT.up.bel⟩
end Go.Proofs.Ytdmnddikcpfmfaa
