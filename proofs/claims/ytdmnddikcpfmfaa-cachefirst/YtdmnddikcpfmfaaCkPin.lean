/-
  What Read, Pin and Unpin do.
-/
import Derived.Test.YtdmnddikcpfmfaaCkFetch
namespace Go.Proofs.Ytdmnddikcpfmfaa
open Go.RowKit Go.Maps Go.Shelf
def lastD (l : List BP) : List Nat := (l.getLast?.map (·.D)).getD []
/-- What Read answers beside the error. -/
def rdC (r : Nat) (l : List BP) (ds : DS) (i : Int) : List Nat := if (fetC r l ds i).1 = 0 then lastD (fetC r l ds i).2.1 else []
theorem cRead_any {w : World} {s : CS} (h : CIn w s) (i : Int) (hwr : s.ds.writes < 1024) : Calls Try.prog 9 #[.pointer (some ⟨s.c, 0, none⟩), .int .i64 i] w fun e w' =>
    ∃ p c, e = .returned (.tuple #[.slice p (rdC s.room s.P s.ds i).length c, .int .i64 (fetC s.room s.P s.ds i).1]) ∧ In w' p (rdC s.room s.P s.ds i).length c (rdC s.room s.P s.ds i) ∧ U8 w' p ∧ ∃ s', CAfter w w' s s' ∧ s'.P = (fetC s.room s.P s.ds i).2.1 ∧ s'.ds = (fetC s.room s.P s.ds i).2.2 := by
  have hf := fetch_any h i hwr
  have hrd : rdC s.room s.P s.ds i = if (fetC s.room s.P s.ds i).1 = 0 then lastD (fetC s.room s.P s.ds i).2.1 else [] := rfl
  generalize rdC s.room s.P s.ds i = D at *
  generalize fetC s.room s.P s.ds i = R at *
  obtain ⟨E, l, ds⟩ := R
  dsimp only at hrd ⊢
  by_cases hE : E = 0
  · subst hE
    rw [if_pos rfl] at hrd
    go_enter Try.func9, Try.ntmps9
    go_wp2_with (go_at_call 31; refine hf.mono ?_; rintro e w1 ⟨s1, A1, hP1, hD1, ⟨_, p, x, hL1, rfl⟩ | ⟨hne, _⟩⟩; rotate_left; exact absurd rfl hne; have hxL : x ∈ s1.L := (by rw [hL1]; simp); have hg := A1.cin.mem x (List.mem_cons_of_mem _ hxL); have d1 := hg.cell' (i := 1) (v := .slice x.p x.b.D.length x.cap) rfl; have hda := (A1.cin.base.dat x hxL).1; have HD : Hid (D = x.b.D) := (by show D = _; rw [hrd]; dsimp only at hP1; rw [← hP1, CS.P, hL1]; simp [lastD]); have HL1 : Hid (s1.L = p ++ [x]) := hL1; clear hL1 hrd)
    have hcl := clone_u8 _ _ _ _ _ hda
    refine hcl.mono ?_
    rintro e w2 ⟨p2, c2, rfl, hin2, hb2, hf2, hu2⟩
    go_wp2_with fail
    go_ret2
    refine ⟨p2, c2, ?_, ?_, hu2, s1, A1.kept hb2, hP1, hD1⟩
    · rw [HD.out]; rfl
    · rw [HD.out]; exact hin2
  · rw [if_neg hE] at hrd
    subst hrd
    go_enter Try.func9, Try.ntmps9
    go_wp2_with (go_at_call 31; refine hf.mono ?_; rintro e w1 ⟨s1, A1, hP1, hD1, ⟨he, _⟩ | ⟨hne, rfl⟩⟩; exact absurd he hE)
    go_ret2
    exact ⟨none, 0, rfl, In.empty _, (fun a ha => by cases ha), s1, A1, hP1, hD1⟩
/-- The last one has one pin more. -/
def pinLast (l : List BP) : List BP :=
  match l.getLast? with
  | some x => l.dropLast ++ [⟨x.k, x.D, x.cl, x.pins + 1⟩]
  | none => l
theorem pinLast_snoc (l : List BP) (x : BP) : pinLast (l ++ [x]) = l ++ [⟨x.k, x.D, x.cl, x.pins + 1⟩] := by simp [pinLast]
def pinC (r : Nat) (l : List BP) (ds : DS) (i : Int) : Int × List BP × DS := ((fetC r l ds i).1, if (fetC r l ds i).1 = 0 then pinLast (fetC r l ds i).2.1 else (fetC r l ds i).2.1, (fetC r l ds i).2.2)
def pinsB (x : BufS) (n : Nat) : BufS := ⟨x.g, x.p, x.cap, ⟨x.b.k, x.b.D, x.b.cl, n⟩⟩
theorem cPin_any {w : World} {s : CS} (h : CIn w s) (i : Int) (hwr : s.ds.writes < 1024) (hpn : ∀ b ∈ (fetC s.room s.P s.ds i).2.1, b.pins ≤ 100000) : Calls Try.prog 13 #[.pointer (some ⟨s.c, 0, none⟩), .int .i64 i] w fun e w' =>
    e = .returned (.int .i64 (pinC s.room s.P s.ds i).1) ∧ ∃ s', CAfter w w' s s' ∧ s'.P = (pinC s.room s.P s.ds i).2.1 ∧ s'.ds = (pinC s.room s.P s.ds i).2.2 := by
  have hf := fetch_any h i hwr
  unfold pinC
  generalize fetC s.room s.P s.ds i = R at *
  obtain ⟨E, l, ds⟩ := R
  dsimp only at hpn ⊢
  by_cases hE : E = 0
  · subst hE
    rw [if_pos rfl]
    go_enter Try.func13, Try.ntmps13
    go_wp2_with (go_at_call 31; refine hf.mono ?_; rintro e w1 ⟨s1, A1, hP1, hD1, ⟨_, p, x, hL1, rfl⟩ | ⟨hne, _⟩⟩; rotate_left; exact absurd rfl hne; have hxL : x ∈ s1.L := (by rw [hL1]; simp); have hg := A1.cin.mem x (List.mem_cons_of_mem _ hxL); have d1 := hg.cell' (i := 3) (v := .int .i64 (x.b.pins : Int)) rfl; have f1 := hg.frozen 3; have hpx : x.b.pins ≤ 100000 := hpn x.b (by dsimp only at hP1; rw [← hP1]; exact List.mem_map.2 ⟨x, hxL, rfl⟩); have HL1 : Hid (s1.L = p ++ [x]) := hL1; clear hL1)
    have A2 := A1.cin.field (p := p) (q := []) HL1.out 3 (.int .i64 ((x.b.pins : Int) + 1)) (pinsB x (x.b.pins + 1)) rfl rfl (fun o n => by simp [bufV, pinsB]) (A1.cin.base.dat x hxL)
    go_ret
    refine ⟨rfl, _, A1.trans A2, ?_, hD1⟩
    rw [← hP1, show s1.P = p.map (·.b) ++ [x.b] from by rw [CS.P, HL1.out]; simp, pinLast_snoc]
    simp [CS.P, pinsB]
  · rw [if_neg hE]
    go_enter Try.func13, Try.ntmps13
    go_wp2_with (go_at_call 31; refine hf.mono ?_; rintro e w1 ⟨s1, A1, hP1, hD1, ⟨he, _⟩ | ⟨hne, rfl⟩⟩; exact absurd he hE)
    go_ret
    exact ⟨rfl, s1, A1, hP1, hD1⟩
/-- One pin less: the error, the buffers. -/
def unpC (l : List BP) (n : Nat) (i : Int) : Int × List BP :=
  if hasB n i = false then (1, l) else
  match cutAt (isK i.toNat) l with
  | none => (4, l)
  | some (p, x, q) => if x.pins = 0 then (4, l) else (0, p ++ ⟨x.k, x.D, x.cl, x.pins - 1⟩ :: q)
set_option maxRecDepth 100000 in
theorem cUnpin_any {w : World} {s : CS} (h : CIn w s) (i : Int) (hpn : ∀ b ∈ s.P, b.pins ≤ 100000) : Calls Try.prog 14 #[.pointer (some ⟨s.c, 0, none⟩), .int .i64 i] w fun e w' =>
    e = .returned (.int .i64 (unpC s.P s.ds.secs.length i).1) ∧ ∃ s', CAfter w w' s s' ∧ s'.P = (unpC s.P s.ds.secs.length i).2 ∧ s'.ds = s.ds := by
  have hck := ccheck_any h i
  cases hh : hasB s.ds.secs.length i
  · rw [chkE_no hh] at hck
    rw [show unpC s.P s.ds.secs.length i = (1, s.P) from if_pos hh]
    go_enter Try.func14, Try.ntmps14
    go_wp2_with (go_at_call 33; refine hck.mono ?_; rintro e w1 ⟨rfl, hb1⟩)
    go_ret
    exact ⟨rfl, s, (CAfter.refl h).kept hb1, rfl, rfl⟩
  · rw [chkE_yes hh] at hck
    obtain ⟨k, rfl, hk⟩ := hasB_nat hh
    rcases split_k (L := s.L) k with ⟨p, x, q, hL, hx, hp⟩ | hno
    · subst hx
      have hxL : x ∈ s.L := by rw [hL]; simp
      have hpx : x.b.pins ≤ 100000 := hpn x.b (List.mem_map.2 ⟨x, hxL, rfl⟩)
      have e1 : cutAt (isK x.b.k) s.P = some (p.map (·.b), x.b, q.map (·.b)) := by rw [CS.P, hL]; exact cut_k rfl hp
      by_cases h0 : x.b.pins = 0
      · have e2 : unpC s.P s.ds.secs.length (x.b.k : Int) = (4, s.P) := by
          unfold unpC
          rw [if_neg (by rw [hh]; decide), show ((x.b.k : Int)).toNat = x.b.k from rfl, e1]
          exact if_pos h0
        rw [e2]
        clear hL e1 e2
        go_enter Try.func14, Try.ntmps14
        go_wp2_with (go_at_call 33; refine hck.mono ?_; rintro e w1 ⟨rfl, hb1⟩; have h1 := h.kept hb1; have hy1 := h1.mapy hxL; have hc2 := h1.c2; have d3 := (h1.mem x (List.mem_cons_of_mem _ hxL)).cell' (i := 3) (v := .int .i64 (x.b.pins : Int)) rfl; rw [h0] at d3)
        go_ret
        exact ⟨rfl, s, (CAfter.refl h).kept hb1, rfl, rfl⟩
      · have e2 : unpC s.P s.ds.secs.length (x.b.k : Int) = (0, p.map (·.b) ++ ⟨x.b.k, x.b.D, x.b.cl, x.b.pins - 1⟩ :: q.map (·.b)) := by
          unfold unpC
          rw [if_neg (by rw [hh]; decide), show ((x.b.k : Int)).toNat = x.b.k from rfl, e1]
          exact if_neg h0
        rw [e2]
        have HL : Hid (s.L = p ++ x :: q) := hL
        have h0' : ¬ (x.b.pins : Int) = 0 := by omega
        clear hL e1 e2
        go_enter Try.func14, Try.ntmps14
        go_wp2_with (go_at_call 33; refine hck.mono ?_; rintro e w1 ⟨rfl, hb1⟩; have h1 := h.kept hb1; have hy1 := h1.mapy hxL; have hc2 := h1.c2; have hg := h1.mem x (List.mem_cons_of_mem _ hxL); have d3 := hg.cell' (i := 3) (v := .int .i64 (x.b.pins : Int)) rfl; have f3 := hg.frozen 3)
        have A2 := h1.field HL.out 3 (.int .i64 ((x.b.pins : Int) - 1)) (pinsB x (x.b.pins - 1)) rfl rfl (fun o n => by simp [bufV, pinsB]; omega) (h1.base.dat x hxL)
        go_ret
        exact ⟨rfl, _, CAfter.drop hb1 A2, by simp [CS.P, pinsB], rfl⟩
    · have e2 : unpC s.P s.ds.secs.length (k : Int) = (4, s.P) := by
        unfold unpC
        rw [if_neg (by rw [hh]; decide), show ((k : Int)).toNat = k from rfl, show cutAt (isK k) s.P = none from cut_no hno]
      rw [e2]
      clear e2
      go_enter Try.func14, Try.ntmps14
      go_wp2_with (go_at_call 33; refine hck.mono ?_; rintro e w1 ⟨rfl, hb1⟩; have h1 := h.kept hb1; have hy1 := h1.mapn k hk hno; have hc2 := h1.c2)
      go_ret
      exact ⟨rfl, s, (CAfter.refl h).kept hb1, rfl, rfl⟩
end Go.Proofs.Ytdmnddikcpfmfaa
