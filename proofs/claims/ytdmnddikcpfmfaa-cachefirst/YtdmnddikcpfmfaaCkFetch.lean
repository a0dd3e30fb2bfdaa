/-
  What fetch, Read, Pin and Unpin do.
-/
import Derived.Test.YtdmnddikcpfmfaaCkBegun
namespace Go.Proofs.Ytdmnddikcpfmfaa
open Go.RowKit Go.Maps Go.Shelf
/-- A block's buffer, which is used: the error, the buffers, the disk. -/
def fetchR (r : Nat) (l : List BP) (ds : DS) (k : Nat) : Int × List BP × DS :=
  match cutAt (isK k) l with
  | some (p, x, q) => (0, p ++ q ++ [x], ds)
  | none => if (roomR r l ds).1 = 0 then (if readE (roomR r l ds).2.2 (k : Int) = 0 then (0, (roomR r l ds).2.1 ++ [⟨k, readD (roomR r l ds).2.2 (k : Int), 0, 0⟩], (roomR r l ds).2.2) else (readE (roomR r l ds).2.2 (k : Int), (roomR r l ds).2.1, (roomR r l ds).2.2)) else roomR r l ds
def fetC (r : Nat) (l : List BP) (ds : DS) (i : Int) : Int × List BP × DS := if hasB ds.secs.length i = false then (1, l, ds) else fetchR r l ds i.toNat
/-- What fetch answers. -/
def FetRes (R : Int × List BP × DS) (w : World) (s : CS) (e : Ending) (w' : World) : Prop :=
  ∃ s', CAfter w w' s s' ∧ s'.P = R.2.1 ∧ s'.ds = R.2.2 ∧ ((R.1 = 0 ∧ ∃ p x, s'.L = p ++ [x] ∧ e = .returned (.tuple #[.pointer (some ⟨x.g, 0, none⟩), .int .i64 0])) ∨ (R.1 ≠ 0 ∧ e = .returned (.tuple #[.pointer none, .int .i64 R.1])))
theorem cfetch_bad {w : World} {s : CS} (h : CIn w s) (i : Int) (hb : hasB s.ds.secs.length i = false) : Calls Try.prog 31 #[.pointer (some ⟨s.c, 0, none⟩), .int .i64 i] w fun e w' => e = .returned (.tuple #[.pointer none, .int .i64 1]) ∧ Below w.heap.size w w' := by
  have hck := ccheck_any h i
  rw [chkE_no hb] at hck
  go_enter Try.func31, Try.ntmps31
  go_wp2_with (go_at_call 33; refine hck.mono ?_; rintro e w1 ⟨rfl, hb1⟩)
  go_ret2
  exact ⟨rfl, hb1⟩
set_option maxRecDepth 100000 in
theorem cfetch_has {w : World} {s : CS} (h : CIn w s) {p q : List BufS} {x : BufS} (hL : s.L = p ++ x :: q) :
    Calls Try.prog 31 #[.pointer (some ⟨s.c, 0, none⟩), .int .i64 (x.b.k : Int)] w fun e w' => e = .returned (.tuple #[.pointer (some ⟨x.g, 0, none⟩), .int .i64 0]) ∧ ∃ O' N', CAfter w w' s { s with L := p ++ q ++ [x], O := O', N := N' } := by
  have hxL : x ∈ s.L := by rw [hL]; simp
  have hck := ccheck_any h (x.b.k : Int)
  rw [chkE_yes (hasB_yes (h.fit.ok x hxL))] at hck
  have HL : Hid (s.L = p ++ x :: q) := hL
  clear hL
  go_enter Try.func31, Try.ntmps31
  go_wp2_with (first
    | (go_at_call 33; refine hck.mono ?_; rintro e w1 ⟨rfl, hb1⟩; have h1 := h.kept hb1; have hy1 := h1.mapy hxL; have hc2 := h1.c2)
    | (go_at_call 37; refine (use_any h1 HL.out).mono ?_; rintro e w2 ⟨⟨u2, rfl⟩, O2, N2, A2⟩))
  go_ret2
  exact ⟨rfl, O2, N2, CAfter.drop hb1 A2⟩
set_option maxRecDepth 100000 in
set_option maxHeartbeats 1000000 in
theorem cfetch_new {w : World} {s : CS} (h : CIn w s) (k : Nat) (hk : k < s.ds.secs.length) (hno : ∀ x ∈ s.L, x.b.k ≠ k) (hwr : s.ds.writes < 1024) :
    Calls Try.prog 31 #[.pointer (some ⟨s.c, 0, none⟩), .int .i64 (k : Int)] w (FetRes (if (roomR s.room s.P s.ds).1 = 0 then (if readE (roomR s.room s.P s.ds).2.2 (k : Int) = 0 then (0, (roomR s.room s.P s.ds).2.1 ++ [⟨k, readD (roomR s.room s.P s.ds).2.2 (k : Int), 0, 0⟩], (roomR s.room s.P s.ds).2.2) else (readE (roomR s.room s.P s.ds).2.2 (k : Int), (roomR s.room s.P s.ds).2.1, (roomR s.room s.P s.ds).2.2)) else roomR s.room s.P s.ds) w s) := by
  have hck := ccheck_any h (k : Int)
  rw [chkE_yes (hasB_yes hk)] at hck
  have hsub := roomR_sub s.room s.P s.ds
  have hll := fun e => roomR_len (r := s.room) (l := s.P) (ds := s.ds) e (by simp [CS.P]; exact h.fit.len)
  have hss := roomR_secs s.room s.P s.ds
  have hro := fun (W : World) (hW : CIn W s) => room_any hW hwr
  generalize roomR s.room s.P s.ds = RR at *
  obtain ⟨E, l1, ds1⟩ := RR
  dsimp only at *
  clear hwr
  by_cases hE : E = 0
  · subst hE
    rw [if_pos rfl]
    have hll := hll rfl
    by_cases hR : readE ds1 (k : Int) = 0
    · rw [if_pos hR]
      have HR : Hid (readE ds1 (k : Int) = 0) := hR
      clear hR
      go_enter Try.func31, Try.ntmps31
      go_wp2_with (first
        | (go_at_call 33; refine hck.mono ?_; rintro e w1 ⟨rfl, hb1⟩; have h1 := h.kept hb1; have hy1 := h1.mapn k hk hno; have hc2 := h1.c2)
        | (go_at_call 35; refine (hro _ h1).mono ?_; rintro e w2 ⟨rfl, s2, A2, hP2, hD2⟩; have HD2 : Hid (s2.ds = ds1) := hD2; clear hD2; have hc0 : w2.cell? ⟨s.c, 0, none⟩ = some (.iface 23 (.pointer (some ⟨s.d, 0, none⟩))) := by rw [← A2.c, ← A2.d]; exact A2.cin.c0))
      have hrd := cread_any A2.cin.base.disk (k : Int)
      rw [A2.d, HD2.out, HR.out] at hrd
      unfold ramI at hrd
      have hrl : (readD ds1 (k : Int)).length = (readD ds1 (k : Int)).length := rfl
      generalize readD ds1 (k : Int) = D at *
      refine hrd.mono ?_
      rintro e w3 ⟨p3, c3, rfl, hin3, hu3, hb3, hf3⟩
      have h3 := A2.cin.kept hb3
      have hk2 : k < s2.ds.secs.length := by rw [HD2.out, hss]; exact hk
      have hno2 : ∀ x ∈ s2.L, x.b.k ≠ k := fun x hx => by
        have h4 : x.b ∈ s.P := hsub _ (hP2 ▸ List.mem_map.2 ⟨x, hx, rfl⟩)
        obtain ⟨y, hy, e⟩ := List.mem_map.1 h4
        rw [← e]
        exact hno y hy
      have hr2 : s2.L.length < s2.room := by
        have := hll
        rw [A2.room]
        rw [← hP2] at this
        simpa [CS.P] using this
      have hadd := add_any h3 k hk2 hno2 hr2
      rw [A2.c] at hadd
      go_wp2_with fail
      refine hadd.mono ?_
      rintro e w4 ⟨rfl, O4, N4, A4⟩
      have hd4 := A4.dat h3 ⟨hin3, hu3⟩
      generalize w3.heap.size = g at *
      have hg4 := A4.cin.mem (newBuf g k) (List.mem_cons_of_mem _ (by simp))
      have d1 : w4.cell? ⟨g, 1, none⟩ = some (.slice none 0 0) := hg4.cell' rfl
      have f1 : w4.frozen? ⟨g, 1, none⟩ = false := hg4.frozen 1
      have A5 := A4.cin.field (p := s2.L) (q := []) (x := newBuf g k) rfl 1 (.slice p3 D.length c3) (dataB (newBuf g k) p3 c3 D) rfl rfl (fun _ _ => rfl) hd4
      go_wp2_with fail
      go_ret2
      refine ⟨_, CAfter.drop hb1 ((A2.kept hb3).trans (A4.trans A5)), ?_, HD2.out, .inl ⟨rfl, s2.L, dataB (newBuf g k) p3 c3 D, rfl, rfl⟩⟩
      rw [← hP2]
      simp [CS.P, dataB, newBuf]
    · rw [if_neg hR]
      go_enter Try.func31, Try.ntmps31
      go_wp2_with (first
        | (go_at_call 33; refine hck.mono ?_; rintro e w1 ⟨rfl, hb1⟩; have h1 := h.kept hb1; have hy1 := h1.mapn k hk hno; have hc2 := h1.c2)
        | (go_at_call 35; refine (hro _ h1).mono ?_; rintro e w2 ⟨rfl, s2, A2, hP2, hD2⟩; have HD2 : Hid (s2.ds = ds1) := hD2; clear hD2; have hc0 : w2.cell? ⟨s.c, 0, none⟩ = some (.iface 23 (.pointer (some ⟨s.d, 0, none⟩))) := by rw [← A2.c, ← A2.d]; exact A2.cin.c0))
      have hrd := cread_any A2.cin.base.disk (k : Int)
      rw [A2.d, HD2.out] at hrd
      unfold ramI at hrd
      generalize readD ds1 (k : Int) = D at *
      refine hrd.mono ?_
      rintro e w3 ⟨p3, c3, rfl, hin3, hu3, hb3, hf3⟩
      go_wp2_with fail
      go_ret2
      exact ⟨s2, CAfter.drop hb1 (A2.kept hb3), hP2, HD2.out, .inr ⟨hR, rfl⟩⟩
  · rw [if_neg hE]
    go_enter Try.func31, Try.ntmps31
    go_wp2_with (first
      | (go_at_call 33; refine hck.mono ?_; rintro e w1 ⟨rfl, hb1⟩; have h1 := h.kept hb1; have hy1 := h1.mapn k hk hno; have hc2 := h1.c2)
      | (go_at_call 35; refine (hro _ h1).mono ?_; rintro e w2 ⟨rfl, s2, A2, hP2, hD2⟩))
    go_ret2
    exact ⟨s2, CAfter.drop hb1 A2, hP2, hD2, .inr ⟨hE, rfl⟩⟩
theorem fetch_any {w : World} {s : CS} (h : CIn w s) (i : Int) (hwr : s.ds.writes < 1024) : Calls Try.prog 31 #[.pointer (some ⟨s.c, 0, none⟩), .int .i64 i] w (FetRes (fetC s.room s.P s.ds i) w s) := by
  cases hh : hasB s.ds.secs.length i
  · have e : fetC s.room s.P s.ds i = (1, s.P, s.ds) := if_pos hh
    rw [e]
    exact (cfetch_bad h i hh).mono fun e w' ⟨he, hb⟩ => ⟨s, (CAfter.refl h).kept hb, rfl, rfl, .inr ⟨by show (1 : Int) ≠ 0; decide, he⟩⟩
  · obtain ⟨k, rfl, hk⟩ := hasB_nat hh
    have e : fetC s.room s.P s.ds (k : Int) = fetchR s.room s.P s.ds k := if_neg (by rw [hh]; decide)
    rw [e]
    rcases split_k (L := s.L) k with ⟨p, x, q, hL, hx, hp⟩ | hno
    · subst hx
      have e2 : fetchR s.room s.P s.ds x.b.k = (0, p.map (·.b) ++ q.map (·.b) ++ [x.b], s.ds) := by
        unfold fetchR
        rw [CS.P, hL, cut_k rfl hp]
      rw [e2]
      exact (cfetch_has h hL).mono fun e w' ⟨he, O', N', hA⟩ => ⟨_, hA, by simp [CS.P], rfl, .inl ⟨rfl, _, x, rfl, he⟩⟩
    · have e2 := cfetch_new h k hk hno hwr
      unfold fetchR
      rw [show cutAt (isK k) s.P = none from cut_no hno]
      exact e2
end Go.Proofs.Ytdmnddikcpfmfaa
