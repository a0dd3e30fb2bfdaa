/-
  The first look at a cache, that every law of layer 10 takes.
-/
import Derived.Test.YtdmnddikcpfmfaaCkNew
namespace Go.Proofs.Ytdmnddikcpfmfaa
open Go.RowKit Go.Maps Go.Shelf
/-- The cache of begun after so many writes. -/
def stB : Nat → Int × List BP × DS
  | 0 => (0, [], newD 20)
  | k + 1 => wrC 8 (stB k).2.1 (stB k).2.2 (k : Int) (cyc [k + 1] 256) 1
theorem stB_ok (k : Nat) (hk : k < 9) : (stB (k + 1)).1 = 0 ∧ (stB k).2.2.writes = 0 := by
  obtain h | h | h | h | h | h | h | h | h : k = 0 ∨ k = 1 ∨ k = 2 ∨ k = 3 ∨ k = 4 ∨ k = 5 ∨ k = 6 ∨ k = 7 ∨ k = 8 := by omega
  all_goals subst h; exact ⟨by kernel_rfl, by kernel_rfl⟩
theorem stB_w : (stB 9).2.2.writes = 1 := by kernel_rfl
theorem stB_r : readE (stB 9).2.2 0 = 0 := by kernel_rfl
theorem stB_d : readD (stB 9).2.2 0 = cyc [1] 256 := by kernel_rfl
theorem stB_h0 : hasK (stB 9).2.1 (stB 9).2.2.secs.length 0 = false := by kernel_rfl
theorem stB_h1 : hasK (stB 9).2.1 (stB 9).2.2.secs.length 1 = true := by kernel_rfl
theorem stB_l : (stB 9).2.1.length = 8 := by kernel_rfl
/-- A cache above a base. -/
structure CUp (B : Nat) (w W : World) (s : CS) : Prop where
  cin : CIn W s
  bel : Below B w W
  fp : ∀ k, fpC s k → B ≤ k
  size : B ≤ W.heap.size
theorem CUp.next {B : Nat} {w W W' : World} {s s' : CS} (h : CUp B w W s) (hA : CAfter W W' s s') : CUp B w W' s' :=
  ⟨hA.cin, h.bel.trans (hA.belowB h.size h.fp), hA.fp h.size h.fp, Nat.le_trans h.size hA.keep.size⟩
theorem CUp.kept {B : Nat} {w W W' : World} {s : CS} (h : CUp B w W s) (hb : Below W.heap.size W W') : CUp B w W' s :=
  ⟨h.cin.kept hb, h.bel.trans (hb.mono h.size), h.fp, Nat.le_trans h.size hb.size⟩
set_option linter.unusedSimpArgs false in
set_option maxRecDepth 100000 in
set_option maxHeartbeats 4000000 in
theorem begun_any (w : World) : Calls Try.prog 8 #[] w fun e w' => e = .returned (.bool true) ∧ Below w.heap.size w w' := by
  have hnew := new_ok 20 (by omega) (by omega) w
  have hmk : ∀ (d : Nat) (W : World), (Instr.makeInterface 23 (.pointer (some ⟨d, 0, none⟩))).run Try.prog W = .ok (ramI d) W := fun _ _ => by kernel_rfl
  go_enter Try.func8, Try.ntmps8
  go_wp2_with (go_at_call 6; refine hnew.mono ?_; rintro e w1 ⟨hb1, d, sb, rfl, hd1, hs1, D1⟩)
  refine (cnew_ok D1 8 (by omega) (by omega)).mono ?_
  rintro e w2 ⟨hb2, c, e', bm, rfl, hc2, he2, hbm2, C2⟩
  have hsz1 := hb1.size
  have U2 : CUp w.heap.size w w2 (newC d sb (.slice none 0 0) (newD 20) c e' bm 8) := ⟨C2, bt hb1 hb2, by
    rintro k (e | e | e | e | e | e)
    · rw [e]; exact Nat.le_trans hsz1 hbm2
    · rw [e]; exact Nat.le_trans hsz1 he2
    · cases e
    · rw [e]; exact hd1
    · rw [e]; exact hs1
    · simp [newC, Value.ownBlock] at e, (bt hb1 hb2).size⟩
  clear hnew D1 hb1 hb2 hc2 he2 hbm2 C2 hsz1 hd1 hs1
  go_wp2_with fail
  go_loopg [27] 9 (fun j i wr => ∃ k s, Hid (s.P = (stB k).2.1) ∧ Hid (s.ds = (stB k).2.2) ∧ Hid (s.c = c) ∧ Hid (s.d = d) ∧ Hid (s.room = 8) ∧ CUp w.heap.size w wr s ∧ i = .int .i64 (k : Int) ∧ k ≤ 9 ∧ j = 9 - k)
  case atStart => exact ⟨0, newC d sb (.slice none 0 0) (newD 20) c e' bm 8, (by show _ = _; rfl), (by show _ = _; rfl), (by show _ = _; rfl), (by show _ = _; rfl), (by show _ = _; rfl), U2, rfl, by omega, rfl⟩
  case round =>
    clear U2
    obtain ⟨k, s, hP, hD, hc, hd, hr, U, rfl, hk, rfl⟩ := hrel
    by_cases hk9 : k < 9
    · obtain ⟨o1, o2⟩ := stB_ok k hk9
      have hf := filled_any (k + 1) (by omega) wr
      rw [show ((k + 1 : Nat) : Int) = (k : Int) + 1 from by omega] at hf
      go_wp2_with fail
      refine hf.mono ?_
      rintro e w3 ⟨g, rfl, hin, hu, hb3, hg⟩
      have U3 := U.kept hb3
      have hw := cwrite_any U3.cin (k : Int) _ _ _ _ ⟨hin, hu⟩ 1 (by rw [hD.out, o2]; omega)
      rw [hP.out, hD.out, hr.out, hc.out] at hw
      rw [show wrC 8 (stB k).2.1 (stB k).2.2 (k : Int) (cyc [k + 1] 256) 1 = stB (k + 1) from rfl, o1] at hw
      go_wp2_with fail
      refine hw.mono ?_
      rintro e w4 ⟨rfl, s4, A4, hP4, hD4⟩
      clear hf hw
      have hc4 : Hid (s4.c = c) := A4.c.trans hc.out
      have hd4 : Hid (s4.d = d) := A4.d.trans hd.out
      have hr4 : Hid (s4.room = 8) := A4.room.trans hr.out
      have HP4 : Hid (s4.P = (stB (k + 1)).2.1) := hP4
      have HD4 : Hid (s4.ds = (stB (k + 1)).2.2) := hD4
      have U4 := U3.next A4
      clear hP4 hD4 A4 U3 U o1 o2 hin hu
      go_wp2_with fail
      go_roundg (9 - (k + 1))
      case measure => omega
      case rel => exact ⟨k + 1, s4, HP4, HD4, hc4, hd4, hr4, U4, by go_num, by omega, rfl⟩
    · have hk9' : k = 9 := by omega
      subst hk9'
      have r1 := stB_r
      have r2 := stB_d
      have r3 := stB_w
      have r4 := stB_h0
      have r5 := stB_h1
      have r6 := stB_l
      generalize stB 9 = S at hP hD r1 r2 r3 r4 r5 r6
      obtain ⟨E9, l9, d9⟩ := S
      dsimp only at hP hD r1 r2 r3 r4 r5 r6
      obtain ⟨D1, hD1, hDl⟩ : ∃ D1, Hid (D1 = cyc [1] 256) ∧ Hid (D1.length = 256) := ⟨_, (by show _ = _; rfl), (by show _ = _; exact cyc_length _ _)⟩
      rw [← hD1.out] at r2
      have hrd := read_any U.cin.base.disk 0
      rw [hD.out, hd.out, r1, r2, hDl.out] at hrd
      go_wp2_with fail
      refine hrd.mono ?_
      rintro e w3 ⟨p3, c3, rfl, hin3, hb3, hf3⟩
      have U3 := U.kept hb3
      have hf := filled_any 1 (by omega) w3
      rw [← hD1.out] at hf
      rw [show ((1 : Nat) : Int) = 1 from rfl] at hf
      clear hrd
      go_wp2_with fail
      refine hf.mono ?_
      rintro e w4 ⟨g4, rfl, hin4, hu4, hb4, hg4⟩
      clear hf
      have U4 := U3.kept hb4
      have hq := equal_any p3 _ 256 c3 256 256 D1 D1 w4 (hin3.below hb4) hin4
      rw [show (D1 == D1) = true from by simp] at hq
      have hwr := writes_any U4.cin.base.disk
      rw [hD.out, hd.out, r3] at hwr
      have hh0 := chas_any U4.cin 0
      rw [hP.out, hD.out, hc.out, r4] at hh0
      clear r1 r2 r3 r4
      go_wp2_with fail
      refine hq.mono ?_
      rintro e w' ⟨rfl, hw'⟩
      have hw2 := hw'.symm
      subst hw2
      clear hw' hq
      go_wp2_with fail
      refine hwr.mono ?_
      rintro e w' ⟨rfl, hw'⟩
      have hw2 := hw'.symm
      subst hw2
      clear hw' hwr
      go_wp2_with fail
      refine hh0.mono ?_
      rintro e w5 ⟨rfl, hb5⟩
      clear hh0
      go_wp2_with fail
      have U5 := U4.kept hb5
      have hh1 := chas_any U5.cin 1
      rw [hP.out, hD.out, hc.out, r5] at hh1
      refine hh1.mono ?_
      rintro e w6 ⟨rfl, hb6⟩
      have U6 := U5.kept hb6
      have hln := clen_any U6.cin
      rw [hP.out, hc.out, r6] at hln
      clear hh1
      go_wp2_with (go_at_call 17; refine hln.mono ?_; rintro e w' ⟨rfl, hw'⟩; have hw2 := hw'.symm; subst hw2; clear hw')
      go_ret
      exact ⟨rfl, U6.bel⟩
end Go.Proofs.Ytdmnddikcpfmfaa
