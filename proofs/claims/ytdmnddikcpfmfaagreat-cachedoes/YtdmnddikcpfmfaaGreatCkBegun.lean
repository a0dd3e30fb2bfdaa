/-
  The first look at a cache, that every law of layer 10 takes.
-/
import Derived.Test.YtdmnddikcpfmfaaGreatEqual
namespace Go.Proofs.YtdmnddikcpfmfaaGreat
open Go.RowKit Go.Maps Go.Shelf
/-- The cache of begun after so many writes. -/
def stB : Nat → Int × List BP × DS
  | 0 => (0, [], newD 20)
  | k + 1 => wrC 8 (stB k).2.1 (stB k).2.2 (k : Int) (cyc [k + 1] 256) 1
theorem stB_ok (k : Nat) (hk : k < 9) : (stB (k + 1)).1 = 0 ∧ (stB k).2.2.writes = 0 := by
  obtain h | h | h | h | h | h | h | h | h : k = 0 ∨ k = 1 ∨ k = 2 ∨ k = 3 ∨ k = 4 ∨ k = 5 ∨ k = 6 ∨ k = 7 ∨ k = 8 := by omega
  all_goals subst h; exact ⟨by kernel_rfl, by kernel_rfl⟩
theorem stB_w : (stB 9).2.2.writes = 1 := by kernel_rfl
theorem stB_r : readE (stB 9).2.2 0 = 0 := by kernel_rfl
theorem stB_d : readD (stB 9).2.2 0 = cyc [1] 256 := by kernel_rfl
theorem stB_h0 : hasK (stB 9).2.1 (stB 9).2.2.secs.length 0 = false := by kernel_rfl
theorem stB_h1 : hasK (stB 9).2.1 (stB 9).2.2.secs.length 1 = true := by kernel_rfl
theorem stB_l : (stB 9).2.1.length = 8 := by kernel_rfl
/-- A cache above a base. -/
structure CUp (B : Nat) (w W : World) (s : CS) : Prop where
  cin : CIn W s
  bel : Below B w W
  fp : ∀ k, fpC s k → B ≤ k
  size : B ≤ W.heap.size
theorem CUp.next {B : Nat} {w W W' : World} {s s' : CS} (h : CUp B w W s) (hA : CAfter W W' s s') : CUp B w W' s' :=
  ⟨hA.cin, h.bel.trans (hA.belowB h.size h.fp), hA.fp h.size h.fp, Nat.le_trans h.size hA.keep.size⟩
theorem CUp.kept {B : Nat} {w W W' : World} {s : CS} (h : CUp B w W s) (hb : Below W.heap.size W W') : CUp B w W' s :=
  ⟨h.cin.kept hb, h.bel.trans (hb.mono h.size), h.fp, Nat.le_trans h.size hb.size⟩
set_option linter.unusedSimpArgs false in
set_option maxRecDepth 100000 in
set_option maxHeartbeats 4000000 in
theorem begun_any (w : World) : Calls Tryz.prog 4 #[] w fun e w' => e = .returned (.bool true) ∧ Below w.heap.size w w' := by
  have hnew := new_ok 20 (by omega) (by omega) w
  have hmk : ∀ (d : Nat) (W : World), (Instr.makeInterface 24 (.pointer (some ⟨d, 0, none⟩))).run Tryz.prog W = .ok (ramI d) W := fun _ _ => by kernel_rfl
  go_enter Tryz.func4, Tryz.ntmps4
  go_wp2_with (go_at_call 5; refine hnew.mono ?_; rintro e w1 ⟨hb1, d, sb, rfl, hd1, hs1, D1⟩)
  refine (cnew_ok D1 8 (by omega) (by omega)).mono ?_
  rintro e w2 ⟨hb2, c, e', bm, rfl, hc2, he2, hbm2, C2⟩
  have hsz1 := hb1.size
  have U2 : CUp w.heap.size w w2 (newC d sb (.slice none 0 0) (newD 20) c e' bm 8) := ⟨C2, bt hb1 hb2, by
    rintro k (e | e | e | e | e | e)
    · rw [e]; exact Nat.le_trans hsz1 hbm2
    · rw [e]; exact Nat.le_trans hsz1 he2
    · cases e
    · rw [e]; exact hd1
    · rw [e]; exact hs1
    · simp [newC, Value.ownBlock] at e, (bt hb1 hb2).size⟩
  clear hnew D1 hb1 hb2 hc2 he2 hbm2 C2 hsz1 hd1 hs1
  go_wp2_with fail
  go_loopg [27] 9 (fun j i wr => ∃ k s, Hid (s.P = (stB k).2.1) ∧ Hid (s.ds = (stB k).2.2) ∧ Hid (s.c = c) ∧ Hid (s.d = d) ∧ Hid (s.room = 8) ∧ CUp w.heap.size w wr s ∧ i = .int .i64 (k : Int) ∧ k ≤ 9 ∧ j = 9 - k)
  case atStart => exact ⟨0, newC d sb (.slice none 0 0) (newD 20) c e' bm 8, (by show _ = _; rfl), (by show _ = _; rfl), (by show _ = _; rfl), (by show _ = _; rfl), (by show _ = _; rfl), U2, rfl, by omega, rfl⟩
  case round =>
    clear U2
    obtain ⟨k, s, hP, hD, hc, hd, hr, U, rfl, hk, rfl⟩ := hrel
    by_cases hk9 : k < 9
    · obtain ⟨o1, o2⟩ := stB_ok k hk9
      have hf := filled_any (k + 1) (by omega) wr
      rw [show ((k + 1 : Nat) : Int) = (k : Int) + 1 from by omega] at hf
      go_wp2_with fail
      refine hf.mono ?_
      rintro e w3 ⟨g, rfl, hin, hu, hb3, hg⟩
      have U3 := U.kept hb3
      have hw := cwrite_any U3.cin (k : Int) _ _ _ _ ⟨hin, hu⟩ 1 (by rw [hD.out, o2]; omega)
      rw [hP.out, hD.out, hr.out, hc.out] at hw
      rw [show wrC 8 (stB k).2.1 (stB k).2.2 (k : Int) (cyc [k + 1] 256) 1 = stB (k + 1) from rfl, o1] at hw
      go_wp2_with fail
      refine hw.mono ?_
      rintro e w4 ⟨rfl, s4, A4, hP4, hD4⟩
      clear hf hw
      have hc4 : Hid (s4.c = c) := A4.c.trans hc.out
      have hd4 : Hid (s4.d = d) := A4.d.trans hd.out
      have hr4 : Hid (s4.room = 8) := A4.room.trans hr.out
      have HP4 : Hid (s4.P = (stB (k + 1)).2.1) := hP4
      have HD4 : Hid (s4.ds = (stB (k + 1)).2.2) := hD4
      have U4 := U3.next A4
      clear hP4 hD4 A4 U3 U o1 o2 hin hu
      go_wp2_with fail
      go_roundg (9 - (k + 1))
      case measure => omega
      case rel => exact ⟨k + 1, s4, HP4, HD4, hc4, hd4, hr4, U4, by go_num, by omega, rfl⟩
    · have hk9' : k = 9 := by omega
      subst hk9'
      have r1 := stB_r
      have r2 := stB_d
      have r3 := stB_w
      have r4 := stB_h0
      have r5 := stB_h1
      have r6 := stB_l
      generalize stB 9 = S at hP hD r1 r2 r3 r4 r5 r6
      obtain ⟨E9, l9, d9⟩ := S
      dsimp only at hP hD r1 r2 r3 r4 r5 r6
      obtain ⟨D1, hD1, hDl⟩ : ∃ D1, Hid (D1 = cyc [1] 256) ∧ Hid (D1.length = 256) := ⟨_, (by show _ = _; rfl), (by show _ = _; exact cyc_length _ _)⟩
      rw [← hD1.out] at r2
      have hrd := read_any U.cin.base.disk 0
      rw [hD.out, hd.out, r1, r2, hDl.out] at hrd
      go_wp2_with fail
      refine hrd.mono ?_
      rintro e w3 ⟨p3, c3, rfl, hin3, hb3, hf3⟩
      have U3 := U.kept hb3
      have hf := filled_any 1 (by omega) w3
      rw [← hD1.out] at hf
      rw [show ((1 : Nat) : Int) = 1 from rfl] at hf
      clear hrd
      go_wp2_with fail
      refine hf.mono ?_
      rintro e w4 ⟨g4, rfl, hin4, hu4, hb4, hg4⟩
      clear hf
      have U4 := U3.kept hb4
      have hq := equal_any p3 _ 256 c3 256 256 D1 D1 w4 (hin3.below hb4) hin4
      rw [show (D1 == D1) = true from by simp] at hq
      have hwr := writes_any U4.cin.base.disk
      rw [hD.out, hd.out, r3] at hwr
      have hh0 := chas_any U4.cin 0
      rw [hP.out, hD.out, hc.out, r4] at hh0
      clear r1 r2 r3 r4
      go_wp2_with fail
      refine hq.mono ?_
      rintro e w' ⟨rfl, hw'⟩
      have hw2 := hw'.symm
      subst hw2
      clear hw' hq
      go_wp2_with fail
      refine hwr.mono ?_
      rintro e w' ⟨rfl, hw'⟩
      have hw2 := hw'.symm
      subst hw2
      clear hw' hwr
      go_wp2_with fail
      refine hh0.mono ?_
      rintro e w5 ⟨rfl, hb5⟩
      clear hh0
      go_wp2_with fail
      have U5 := U4.kept hb5
      have hh1 := chas_any U5.cin 1
      rw [hP.out, hD.out, hc.out, r5] at hh1
      refine hh1.mono ?_
      rintro e w6 ⟨rfl, hb6⟩
      have U6 := U5.kept hb6
      have hln := clen_any U6.cin
      rw [hP.out, hc.out, r6] at hln
      clear hh1
      go_wp2_with (go_at_call 22; refine hln.mono ?_; rintro e w' ⟨rfl, hw'⟩; have hw2 := hw'.symm; subst hw2; clear hw')
      go_ret
      exact ⟨rfl, U6.bel⟩
end Go.Proofs.YtdmnddikcpfmfaaGreat

namespace Go.Proofs.YtdmnddikcpfmfaaGreat
open Go.RowKit Go.Maps Go.Shelf
/-- A block's buffer, which is used: the error, the buffers, the disk. -/
def fetchR (r : Nat) (l : List BP) (ds : DS) (k : Nat) : Int × List BP × DS :=
  match cutAt (isK k) l with
  | some (p, x, q) => (0, p ++ q ++ [x], ds)
  | none => if (roomR r l ds).1 = 0 then (if readE (roomR r l ds).2.2 (k : Int) = 0 then (0, (roomR r l ds).2.1 ++ [⟨k, readD (roomR r l ds).2.2 (k : Int), 0, 0⟩], (roomR r l ds).2.2) else (readE (roomR r l ds).2.2 (k : Int), (roomR r l ds).2.1, (roomR r l ds).2.2)) else roomR r l ds
def fetC (r : Nat) (l : List BP) (ds : DS) (i : Int) : Int × List BP × DS := if hasB ds.secs.length i = false then (1, l, ds) else fetchR r l ds i.toNat
/-- What fetch answers. -/
def FetRes (R : Int × List BP × DS) (w : World) (s : CS) (e : Ending) (w' : World) : Prop :=
  ∃ s', CAfter w w' s s' ∧ s'.P = R.2.1 ∧ s'.ds = R.2.2 ∧ ((R.1 = 0 ∧ ∃ p x, s'.L = p ++ [x] ∧ e = .returned (.tuple #[.pointer (some ⟨x.g, 0, none⟩), .int .i64 0])) ∨ (R.1 ≠ 0 ∧ e = .returned (.tuple #[.pointer none, .int .i64 R.1])))
theorem cfetch_bad {w : World} {s : CS} (h : CIn w s) (i : Int) (hb : hasB s.ds.secs.length i = false) : Calls Tryz.prog 70 #[.pointer (some ⟨s.c, 0, none⟩), .int .i64 i] w fun e w' => e = .returned (.tuple #[.pointer none, .int .i64 1]) ∧ Below w.heap.size w w' := by
  have hck := ccheck_any h i
  rw [chkE_no hb] at hck
  go_enter Tryz.func70, Tryz.ntmps70
  go_wp2_with (go_at_call 57; refine hck.mono ?_; rintro e w1 ⟨rfl, hb1⟩)
  go_ret2
  exact ⟨rfl, hb1⟩
set_option maxRecDepth 100000 in
theorem cfetch_has {w : World} {s : CS} (h : CIn w s) {p q : List BufS} {x : BufS} (hL : s.L = p ++ x :: q) :
    Calls Tryz.prog 70 #[.pointer (some ⟨s.c, 0, none⟩), .int .i64 (x.b.k : Int)] w fun e w' => e = .returned (.tuple #[.pointer (some ⟨x.g, 0, none⟩), .int .i64 0]) ∧ ∃ O' N', CAfter w w' s { s with L := p ++ q ++ [x], O := O', N := N' } := by
  have hxL : x ∈ s.L := by rw [hL]; simp
  have hck := ccheck_any h (x.b.k : Int)
  rw [chkE_yes (hasB_yes (h.fit.ok x hxL))] at hck
  have HL : Hid (s.L = p ++ x :: q) := hL
  clear hL
  go_enter Tryz.func70, Tryz.ntmps70
  go_wp2_with (first
    | (go_at_call 57; refine hck.mono ?_; rintro e w1 ⟨rfl, hb1⟩; have h1 := h.kept hb1; have hy1 := h1.mapy hxL; have hc2 := h1.c2)
    | (go_at_call 62; refine (use_any h1 HL.out).mono ?_; rintro e w2 ⟨⟨u2, rfl⟩, O2, N2, A2⟩))
  go_ret2
  exact ⟨rfl, O2, N2, CAfter.drop hb1 A2⟩
set_option maxRecDepth 100000 in
set_option maxHeartbeats 1000000 in
theorem cfetch_new {w : World} {s : CS} (h : CIn w s) (k : Nat) (hk : k < s.ds.secs.length) (hno : ∀ x ∈ s.L, x.b.k ≠ k) (hwr : s.ds.writes < 1024) :
    Calls Tryz.prog 70 #[.pointer (some ⟨s.c, 0, none⟩), .int .i64 (k : Int)] w (FetRes (if (roomR s.room s.P s.ds).1 = 0 then (if readE (roomR s.room s.P s.ds).2.2 (k : Int) = 0 then (0, (roomR s.room s.P s.ds).2.1 ++ [⟨k, readD (roomR s.room s.P s.ds).2.2 (k : Int), 0, 0⟩], (roomR s.room s.P s.ds).2.2) else (readE (roomR s.room s.P s.ds).2.2 (k : Int), (roomR s.room s.P s.ds).2.1, (roomR s.room s.P s.ds).2.2)) else roomR s.room s.P s.ds) w s) := by
  have hck := ccheck_any h (k : Int)
  rw [chkE_yes (hasB_yes hk)] at hck
  have hsub := roomR_sub s.room s.P s.ds
  have hll := fun e => roomR_len (r := s.room) (l := s.P) (ds := s.ds) e (by simp [CS.P]; exact h.fit.len)
  have hss := roomR_secs s.room s.P s.ds
  have hro := fun (W : World) (hW : CIn W s) => room_any hW hwr
  generalize roomR s.room s.P s.ds = RR at *
  obtain ⟨E, l1, ds1⟩ := RR
  dsimp only at *
  clear hwr
  by_cases hE : E = 0
  · subst hE
    rw [if_pos rfl]
    have hll := hll rfl
    by_cases hR : readE ds1 (k : Int) = 0
    · rw [if_pos hR]
      have HR : Hid (readE ds1 (k : Int) = 0) := hR
      clear hR
      go_enter Tryz.func70, Tryz.ntmps70
      go_wp2_with (first
        | (go_at_call 57; refine hck.mono ?_; rintro e w1 ⟨rfl, hb1⟩; have h1 := h.kept hb1; have hy1 := h1.mapn k hk hno; have hc2 := h1.c2)
        | (go_at_call 59; refine (hro _ h1).mono ?_; rintro e w2 ⟨rfl, s2, A2, hP2, hD2⟩; have HD2 : Hid (s2.ds = ds1) := hD2; clear hD2; have hc0 : w2.cell? ⟨s.c, 0, none⟩ = some (.iface 24 (.pointer (some ⟨s.d, 0, none⟩))) := by rw [← A2.c, ← A2.d]; exact A2.cin.c0))
      have hrd := cread_any A2.cin.base.disk (k : Int)
      rw [A2.d, HD2.out, HR.out] at hrd
      unfold ramI at hrd
      have hrl : (readD ds1 (k : Int)).length = (readD ds1 (k : Int)).length := rfl
      generalize readD ds1 (k : Int) = D at *
      refine hrd.mono ?_
      rintro e w3 ⟨p3, c3, rfl, hin3, hu3, hb3, hf3⟩
      have h3 := A2.cin.kept hb3
      have hk2 : k < s2.ds.secs.length := by rw [HD2.out, hss]; exact hk
      have hno2 : ∀ x ∈ s2.L, x.b.k ≠ k := fun x hx => by
        have h4 : x.b ∈ s.P := hsub _ (hP2 ▸ List.mem_map.2 ⟨x, hx, rfl⟩)
        obtain ⟨y, hy, e⟩ := List.mem_map.1 h4
        rw [← e]
        exact hno y hy
      have hr2 : s2.L.length < s2.room := by
        have := hll
        rw [A2.room]
        rw [← hP2] at this
        simpa [CS.P] using this
      have hadd := add_any h3 k hk2 hno2 hr2
      rw [A2.c] at hadd
      go_wp2_with fail
      refine hadd.mono ?_
      rintro e w4 ⟨rfl, O4, N4, A4⟩
      have hd4 := A4.dat h3 ⟨hin3, hu3⟩
      generalize w3.heap.size = g at *
      have hg4 := A4.cin.mem (newBuf g k) (List.mem_cons_of_mem _ (by simp))
      have d1 : w4.cell? ⟨g, 1, none⟩ = some (.slice none 0 0) := hg4.cell' rfl
      have f1 : w4.frozen? ⟨g, 1, none⟩ = false := hg4.frozen 1
      have A5 := A4.cin.field (p := s2.L) (q := []) (x := newBuf g k) rfl 1 (.slice p3 D.length c3) (dataB (newBuf g k) p3 c3 D) rfl rfl (fun _ _ => rfl) hd4
      go_wp2_with fail
      go_ret2
      refine ⟨_, CAfter.drop hb1 ((A2.kept hb3).trans (A4.trans A5)), ?_, HD2.out, .inl ⟨rfl, s2.L, dataB (newBuf g k) p3 c3 D, rfl, rfl⟩⟩
      rw [← hP2]
      simp [CS.P, dataB, newBuf]
    · rw [if_neg hR]
      go_enter Tryz.func70, Tryz.ntmps70
      go_wp2_with (first
        | (go_at_call 57; refine hck.mono ?_; rintro e w1 ⟨rfl, hb1⟩; have h1 := h.kept hb1; have hy1 := h1.mapn k hk hno; have hc2 := h1.c2)
        | (go_at_call 59; refine (hro _ h1).mono ?_; rintro e w2 ⟨rfl, s2, A2, hP2, hD2⟩; have HD2 : Hid (s2.ds = ds1) := hD2; clear hD2; have hc0 : w2.cell? ⟨s.c, 0, none⟩ = some (.iface 24 (.pointer (some ⟨s.d, 0, none⟩))) := by rw [← A2.c, ← A2.d]; exact A2.cin.c0))
      have hrd := cread_any A2.cin.base.disk (k : Int)
      rw [A2.d, HD2.out] at hrd
      unfold ramI at hrd
      generalize readD ds1 (k : Int) = D at *
      refine hrd.mono ?_
      rintro e w3 ⟨p3, c3, rfl, hin3, hu3, hb3, hf3⟩
      go_wp2_with fail
      go_ret2
      exact ⟨s2, CAfter.drop hb1 (A2.kept hb3), hP2, HD2.out, .inr ⟨hR, rfl⟩⟩
  · rw [if_neg hE]
    go_enter Tryz.func70, Tryz.ntmps70
    go_wp2_with (first
      | (go_at_call 57; refine hck.mono ?_; rintro e w1 ⟨rfl, hb1⟩; have h1 := h.kept hb1; have hy1 := h1.mapn k hk hno; have hc2 := h1.c2)
      | (go_at_call 59; refine (hro _ h1).mono ?_; rintro e w2 ⟨rfl, s2, A2, hP2, hD2⟩))
    go_ret2
    exact ⟨s2, CAfter.drop hb1 A2, hP2, hD2, .inr ⟨hE, rfl⟩⟩
theorem fetch_any {w : World} {s : CS} (h : CIn w s) (i : Int) (hwr : s.ds.writes < 1024) : Calls Tryz.prog 70 #[.pointer (some ⟨s.c, 0, none⟩), .int .i64 i] w (FetRes (fetC s.room s.P s.ds i) w s) := by
  cases hh : hasB s.ds.secs.length i
  · have e : fetC s.room s.P s.ds i = (1, s.P, s.ds) := if_pos hh
    rw [e]
    exact (cfetch_bad h i hh).mono fun e w' ⟨he, hb⟩ => ⟨s, (CAfter.refl h).kept hb, rfl, rfl, .inr ⟨by show (1 : Int) ≠ 0; decide, he⟩⟩
  · obtain ⟨k, rfl, hk⟩ := hasB_nat hh
    have e : fetC s.room s.P s.ds (k : Int) = fetchR s.room s.P s.ds k := if_neg (by rw [hh]; decide)
    rw [e]
    rcases split_k (L := s.L) k with ⟨p, x, q, hL, hx, hp⟩ | hno
    · subst hx
      have e2 : fetchR s.room s.P s.ds x.b.k = (0, p.map (·.b) ++ q.map (·.b) ++ [x.b], s.ds) := by
        unfold fetchR
        rw [CS.P, hL, cut_k rfl hp]
      rw [e2]
      exact (cfetch_has h hL).mono fun e w' ⟨he, O', N', hA⟩ => ⟨_, hA, by simp [CS.P], rfl, .inl ⟨rfl, _, x, rfl, he⟩⟩
    · have e2 := cfetch_new h k hk hno hwr
      unfold fetchR
      rw [show cutAt (isK k) s.P = none from cut_no hno]
      exact e2
end Go.Proofs.YtdmnddikcpfmfaaGreat

namespace Go.Proofs.YtdmnddikcpfmfaaGreat
open Go.RowKit Go.Maps Go.Shelf
def lastD (l : List BP) : List Nat := (l.getLast?.map (·.D)).getD []
/-- What Read answers beside the error. -/
def rdC (r : Nat) (l : List BP) (ds : DS) (i : Int) : List Nat := if (fetC r l ds i).1 = 0 then lastD (fetC r l ds i).2.1 else []
theorem cRead_any {w : World} {s : CS} (h : CIn w s) (i : Int) (hwr : s.ds.writes < 1024) : Calls Tryz.prog 26 #[.pointer (some ⟨s.c, 0, none⟩), .int .i64 i] w fun e w' =>
    ∃ p c, e = .returned (.tuple #[.slice p (rdC s.room s.P s.ds i).length c, .int .i64 (fetC s.room s.P s.ds i).1]) ∧ In w' p (rdC s.room s.P s.ds i).length c (rdC s.room s.P s.ds i) ∧ U8 w' p ∧ ∃ s', CAfter w w' s s' ∧ s'.P = (fetC s.room s.P s.ds i).2.1 ∧ s'.ds = (fetC s.room s.P s.ds i).2.2 := by
  have hf := fetch_any h i hwr
  have hrd : rdC s.room s.P s.ds i = if (fetC s.room s.P s.ds i).1 = 0 then lastD (fetC s.room s.P s.ds i).2.1 else [] := rfl
  generalize rdC s.room s.P s.ds i = D at *
  generalize fetC s.room s.P s.ds i = R at *
  obtain ⟨E, l, ds⟩ := R
  dsimp only at hrd ⊢
  by_cases hE : E = 0
  · subst hE
    rw [if_pos rfl] at hrd
    go_enter Tryz.func26, Tryz.ntmps26
    go_wp2_with (go_at_call 70; refine hf.mono ?_; rintro e w1 ⟨s1, A1, hP1, hD1, ⟨_, p, x, hL1, rfl⟩ | ⟨hne, _⟩⟩; rotate_left; exact absurd rfl hne; have hxL : x ∈ s1.L := (by rw [hL1]; simp); have hg := A1.cin.mem x (List.mem_cons_of_mem _ hxL); have d1 := hg.cell' (i := 1) (v := .slice x.p x.b.D.length x.cap) rfl; have hda := (A1.cin.base.dat x hxL).1; have HD : Hid (D = x.b.D) := (by show D = _; rw [hrd]; dsimp only at hP1; rw [← hP1, CS.P, hL1]; simp [lastD]); have HL1 : Hid (s1.L = p ++ [x]) := hL1; clear hL1 hrd)
    have hcl := clone_u8 _ _ _ _ _ hda
    refine hcl.mono ?_
    rintro e w2 ⟨p2, c2, rfl, hin2, hb2, hf2, hu2⟩
    go_wp2_with fail
    go_ret2
    refine ⟨p2, c2, ?_, ?_, hu2, s1, A1.kept hb2, hP1, hD1⟩
    · rw [HD.out]; rfl
    · rw [HD.out]; exact hin2
  · rw [if_neg hE] at hrd
    subst hrd
    go_enter Tryz.func26, Tryz.ntmps26
    go_wp2_with (go_at_call 70; refine hf.mono ?_; rintro e w1 ⟨s1, A1, hP1, hD1, ⟨he, _⟩ | ⟨hne, rfl⟩⟩; exact absurd he hE)
    go_ret2
    exact ⟨none, 0, rfl, In.empty _, (fun a ha => by cases ha), s1, A1, hP1, hD1⟩
/-- The last one has one pin more. -/
def pinLast (l : List BP) : List BP :=
  match l.getLast? with
  | some x => l.dropLast ++ [⟨x.k, x.D, x.cl, x.pins + 1⟩]
  | none => l
theorem pinLast_snoc (l : List BP) (x : BP) : pinLast (l ++ [x]) = l ++ [⟨x.k, x.D, x.cl, x.pins + 1⟩] := by simp [pinLast]
def pinC (r : Nat) (l : List BP) (ds : DS) (i : Int) : Int × List BP × DS := ((fetC r l ds i).1, if (fetC r l ds i).1 = 0 then pinLast (fetC r l ds i).2.1 else (fetC r l ds i).2.1, (fetC r l ds i).2.2)
def pinsB (x : BufS) (n : Nat) : BufS := ⟨x.g, x.p, x.cap, ⟨x.b.k, x.b.D, x.b.cl, n⟩⟩
theorem cPin_any {w : World} {s : CS} (h : CIn w s) (i : Int) (hwr : s.ds.writes < 1024) (hpn : ∀ b ∈ (fetC s.room s.P s.ds i).2.1, b.pins ≤ 100000) : Calls Tryz.prog 29 #[.pointer (some ⟨s.c, 0, none⟩), .int .i64 i] w fun e w' =>
    e = .returned (.int .i64 (pinC s.room s.P s.ds i).1) ∧ ∃ s', CAfter w w' s s' ∧ s'.P = (pinC s.room s.P s.ds i).2.1 ∧ s'.ds = (pinC s.room s.P s.ds i).2.2 := by
  have hf := fetch_any h i hwr
  unfold pinC
  generalize fetC s.room s.P s.ds i = R at *
  obtain ⟨E, l, ds⟩ := R
  dsimp only at hpn ⊢
  by_cases hE : E = 0
  · subst hE
    rw [if_pos rfl]
    go_enter Tryz.func29, Tryz.ntmps29
    go_wp2_with (go_at_call 70; refine hf.mono ?_; rintro e w1 ⟨s1, A1, hP1, hD1, ⟨_, p, x, hL1, rfl⟩ | ⟨hne, _⟩⟩; rotate_left; exact absurd rfl hne; have hxL : x ∈ s1.L := (by rw [hL1]; simp); have hg := A1.cin.mem x (List.mem_cons_of_mem _ hxL); have d1 := hg.cell' (i := 3) (v := .int .i64 (x.b.pins : Int)) rfl; have f1 := hg.frozen 3; have hpx : x.b.pins ≤ 100000 := hpn x.b (by dsimp only at hP1; rw [← hP1]; exact List.mem_map.2 ⟨x, hxL, rfl⟩); have HL1 : Hid (s1.L = p ++ [x]) := hL1; clear hL1)
    have A2 := A1.cin.field (p := p) (q := []) HL1.out 3 (.int .i64 ((x.b.pins : Int) + 1)) (pinsB x (x.b.pins + 1)) rfl rfl (fun o n => by simp [bufV, pinsB]) (A1.cin.base.dat x hxL)
    go_ret
    refine ⟨rfl, _, A1.trans A2, ?_, hD1⟩
    rw [← hP1, show s1.P = p.map (·.b) ++ [x.b] from by rw [CS.P, HL1.out]; simp, pinLast_snoc]
    simp [CS.P, pinsB]
  · rw [if_neg hE]
    go_enter Tryz.func29, Tryz.ntmps29
    go_wp2_with (go_at_call 70; refine hf.mono ?_; rintro e w1 ⟨s1, A1, hP1, hD1, ⟨he, _⟩ | ⟨hne, rfl⟩⟩; exact absurd he hE)
    go_ret
    exact ⟨rfl, s1, A1, hP1, hD1⟩
/-- One pin less: the error, the buffers. -/
def unpC (l : List BP) (n : Nat) (i : Int) : Int × List BP :=
  if hasB n i = false then (1, l) else
  match cutAt (isK i.toNat) l with
  | none => (4, l)
  | some (p, x, q) => if x.pins = 0 then (4, l) else (0, p ++ ⟨x.k, x.D, x.cl, x.pins - 1⟩ :: q)
set_option maxRecDepth 100000 in
theorem cUnpin_any {w : World} {s : CS} (h : CIn w s) (i : Int) (hpn : ∀ b ∈ s.P, b.pins ≤ 100000) : Calls Tryz.prog 31 #[.pointer (some ⟨s.c, 0, none⟩), .int .i64 i] w fun e w' =>
    e = .returned (.int .i64 (unpC s.P s.ds.secs.length i).1) ∧ ∃ s', CAfter w w' s s' ∧ s'.P = (unpC s.P s.ds.secs.length i).2 ∧ s'.ds = s.ds := by
  have hck := ccheck_any h i
  cases hh : hasB s.ds.secs.length i
  · rw [chkE_no hh] at hck
    rw [show unpC s.P s.ds.secs.length i = (1, s.P) from if_pos hh]
    go_enter Tryz.func31, Tryz.ntmps31
    go_wp2_with (go_at_call 57; refine hck.mono ?_; rintro e w1 ⟨rfl, hb1⟩)
    go_ret
    exact ⟨rfl, s, (CAfter.refl h).kept hb1, rfl, rfl⟩
  · rw [chkE_yes hh] at hck
    obtain ⟨k, rfl, hk⟩ := hasB_nat hh
    rcases split_k (L := s.L) k with ⟨p, x, q, hL, hx, hp⟩ | hno
    · subst hx
      have hxL : x ∈ s.L := by rw [hL]; simp
      have hpx : x.b.pins ≤ 100000 := hpn x.b (List.mem_map.2 ⟨x, hxL, rfl⟩)
      have e1 : cutAt (isK x.b.k) s.P = some (p.map (·.b), x.b, q.map (·.b)) := by rw [CS.P, hL]; exact cut_k rfl hp
      by_cases h0 : x.b.pins = 0
      · have e2 : unpC s.P s.ds.secs.length (x.b.k : Int) = (4, s.P) := by
          unfold unpC
          rw [if_neg (by rw [hh]; decide), show ((x.b.k : Int)).toNat = x.b.k from rfl, e1]
          exact if_pos h0
        rw [e2]
        clear hL e1 e2
        go_enter Tryz.func31, Tryz.ntmps31
        go_wp2_with (go_at_call 57; refine hck.mono ?_; rintro e w1 ⟨rfl, hb1⟩; have h1 := h.kept hb1; have hy1 := h1.mapy hxL; have hc2 := h1.c2; have d3 := (h1.mem x (List.mem_cons_of_mem _ hxL)).cell' (i := 3) (v := .int .i64 (x.b.pins : Int)) rfl; rw [h0] at d3)
        go_ret
        exact ⟨rfl, s, (CAfter.refl h).kept hb1, rfl, rfl⟩
      · have e2 : unpC s.P s.ds.secs.length (x.b.k : Int) = (0, p.map (·.b) ++ ⟨x.b.k, x.b.D, x.b.cl, x.b.pins - 1⟩ :: q.map (·.b)) := by
          unfold unpC
          rw [if_neg (by rw [hh]; decide), show ((x.b.k : Int)).toNat = x.b.k from rfl, e1]
          exact if_neg h0
        rw [e2]
        have HL : Hid (s.L = p ++ x :: q) := hL
        have h0' : ¬ (x.b.pins : Int) = 0 := by omega
        clear hL e1 e2
        go_enter Tryz.func31, Tryz.ntmps31
        go_wp2_with (go_at_call 57; refine hck.mono ?_; rintro e w1 ⟨rfl, hb1⟩; have h1 := h.kept hb1; have hy1 := h1.mapy hxL; have hc2 := h1.c2; have hg := h1.mem x (List.mem_cons_of_mem _ hxL); have d3 := hg.cell' (i := 3) (v := .int .i64 (x.b.pins : Int)) rfl; have f3 := hg.frozen 3)
        have A2 := h1.field HL.out 3 (.int .i64 ((x.b.pins : Int) - 1)) (pinsB x (x.b.pins - 1)) rfl rfl (fun o n => by simp [bufV, pinsB]; omega) (h1.base.dat x hxL)
        go_ret
        exact ⟨rfl, _, CAfter.drop hb1 A2, by simp [CS.P, pinsB], rfl⟩
    · have e2 : unpC s.P s.ds.secs.length (k : Int) = (4, s.P) := by
        unfold unpC
        rw [if_neg (by rw [hh]; decide), show ((k : Int)).toNat = k from rfl, show cutAt (isK k) s.P = none from cut_no hno]
      rw [e2]
      clear e2
      go_enter Tryz.func31, Tryz.ntmps31
      go_wp2_with (go_at_call 57; refine hck.mono ?_; rintro e w1 ⟨rfl, hb1⟩; have h1 := h.kept hb1; have hy1 := h1.mapn k hk hno; have hc2 := h1.c2)
      go_ret
      exact ⟨rfl, s, (CAfter.refl h).kept hb1, rfl, rfl⟩
end Go.Proofs.YtdmnddikcpfmfaaGreat
