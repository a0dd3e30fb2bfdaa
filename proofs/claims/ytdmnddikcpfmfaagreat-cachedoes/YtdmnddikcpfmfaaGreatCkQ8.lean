/-
  The reference's Write.
-/
import Derived.Test.YtdmnddikcpfmfaaGreatCkQ6
namespace Go.Proofs.YtdmnddikcpfmfaaGreat
open Go.RowKit Go.Shelf
theorem Turned.trans2 {a b c : World} {g : Nat} (h : Turned a b g) (k : Turned b c g) : Turned a c g := ⟨k.os.trans h.os, k.tape.trans h.tape, k.output.trans h.output, k.size.trans h.size, fun j hj => (k.block j hj).trans (h.block j hj)⟩
def wrQ (r : Nat) (l : List BP) (t : RS) (i : Int) (D : List Nat) (cl : Int) : Int × List BP × RS :=
  if hasB t.secs.length i = false then (1, l, t) else if D.length ≠ 256 ∨ ¬ (cl = 1 ∨ cl = 2) then (1, l, t) else
  match cutAt (isK i.toNat) l with
  | some (_, x, _) => (0, dropK l x.k ++ [⟨x.k, D, cl.toNat, x.pins⟩], t)
  | none => if (roomQ r l t).1 = 0 then (0, dropK (roomQ r l t).2.1 i.toNat ++ [⟨i.toNat, D, cl.toNat, 0⟩], (roomQ r l t).2.2) else roomQ r l t
set_option linter.unusedSimpArgs false in
set_option maxHeartbeats 4000000 in
set_option maxRecDepth 100000 in
theorem qwrite_no {w : World} {s : QS} (h : QIn w s) (i : Int) (p : Option Addr) (n c : Nat) (xs : List Nat) (hx : In w p n c xs) (cl : Int) (hno : hasB s.t.secs.length i = false ∨ xs.length ≠ 256 ∨ ¬ (cl = 1 ∨ cl = 2)) : Calls Tryz.prog 28 #[.pointer (some ⟨s.q, 0, none⟩), .int .i64 i, .slice p n c, .int .i64 cl] w fun e w' => e = .returned (.int .i64 (wrQ s.room s.P s.t i xs cl).1) ∧ ∃ s', QAfter w w' s s' ∧ s'.P = (wrQ s.room s.P s.t i xs cl).2.1 ∧ s'.t = (wrQ s.room s.P s.t i xs cl).2.2 := by
  have e : wrQ s.room s.P s.t i xs cl = (1, s.P, s.t) := by
    unfold wrQ
    by_cases h1 : hasB s.t.secs.length i = false
    · rw [if_pos h1]
    · rw [if_neg h1, if_pos (by rcases hno with e | e; exact absurd e h1; exact e)]
  rw [e]
  have ht := qthere_any h i
  rw [hx.len] at hno
  cases hh : hasB s.t.secs.length i with
  | false =>
    rw [hh] at ht
    clear e hh hno
    go_enter Tryz.func28, Tryz.ntmps28
    go_wp2_with (go_at_call 74; refine ht.mono ?_; rintro e w' ⟨rfl, hw'⟩; have hw2 := hw'.symm; subst hw2; clear hw')
    go_ret
    exact ⟨rfl, s, QAfter.refl h, rfl, rfl⟩
  | true =>
    rw [hh] at ht
    by_cases hn : n = 256
    · have h1 : (cl != 1) = true := by rw [bne_iff_ne]; intro e; rcases hno with e' | e' | e'; (rw [hh] at e'; cases e'); exact e' hn; exact e' (.inl e)
      have h2 : (cl != 2) = true := by rw [bne_iff_ne]; intro e; rcases hno with e' | e' | e'; (rw [hh] at e'; cases e'); exact e' hn; exact e' (.inr e)
      subst hn
      clear e hh hno
      go_enter Tryz.func28, Tryz.ntmps28
      go_wp2_with (go_at_call 74; refine ht.mono ?_; rintro e w' ⟨rfl, hw'⟩; have hw2 := hw'.symm; subst hw2; clear hw')
      go_ret
      exact ⟨rfl, s, QAfter.refl h, rfl, rfl⟩
    · have hnz : ((n : Int) != 256) = true := by rw [bne_iff_ne]; omega
      clear e hh hno hn
      go_enter Tryz.func28, Tryz.ntmps28
      go_wp2_with (go_at_call 74; refine ht.mono ?_; rintro e w' ⟨rfl, hw'⟩; have hw2 := hw'.symm; subst hw2; clear hw')
      go_ret
      exact ⟨rfl, s, QAfter.refl h, rfl, rfl⟩
set_option linter.unusedSimpArgs false in
set_option maxHeartbeats 4000000 in
set_option maxRecDepth 100000 in
theorem qwrite_old {w : World} {s : QS} (h : QIn w s) (k : Nat) (p : Option Addr) (c : Nat) (xs : List Nat) (hx : In w p 256 c xs) (CL : Nat) (hC : CL = 1 ∨ CL = 2) (hh : hasB s.t.secs.length (k : Int) = true) {P1 Q1 : List BP} {y : BP} (hc : cutAt (isK k) s.P = some (P1, y, Q1)) : Calls Tryz.prog 28 #[.pointer (some ⟨s.q, 0, none⟩), .int .i64 (k : Int), .slice p 256 c, .int .i64 (CL : Int)] w fun e w' => e = .returned (.int .i64 0) ∧ ∃ s', QAfter w w' s s' ∧ s'.P = dropK s.P y.k ++ [⟨y.k, xs, CL, y.pins⟩] ∧ s'.t = s.t := by
  obtain ⟨hP, hyk, -⟩ := cutAt_spec hc
  have hpy : s.P[P1.length]? = some y := by rw [hP]; simp
  obtain ⟨x, hxi, hxy⟩ := QS.at hpy
  subst hxy
  have HRM : Hid ((dropK s.P x.b.k).length + 1 ≤ s.room) := by
    show _ ≤ _
    have e : x.b.k = k := by simpa [isK] using hyk
    have e1 := h.len
    have e2 : s.P.length = s.L.length := by simp [QS.P]
    rw [hP] at e2
    rw [dropK, e, hc]
    simp at e2 ⊢
    omega
  have hb0 := below_alloc w (.cells #[.int .i64 (x.b.k : Int), .slice x.p x.b.D.length x.cap, .int .i64 (x.b.cl : Int), .int .i64 (x.b.pins : Int)] 86)
  have h1 := h.below hb0
  have k0 : Blk (w.alloc (.cells #[.int .i64 (x.b.k : Int), .slice x.p x.b.D.length x.cap, .int .i64 (x.b.cl : Int), .int .i64 (x.b.pins : Int)] 86)) w.heap.size 86 [.int .i64 (x.b.k : Int), .slice x.p x.b.D.length x.cap, .int .i64 (x.b.cl : Int), .int .i64 (x.b.pins : Int)] := Blk.new' w 86 #[.int .i64 (x.b.k : Int), .slice x.p x.b.D.length x.cap, .int .i64 (x.b.cl : Int), .int .i64 (x.b.pins : Int)]
  have hsz : w.heap.size < (w.alloc (.cells #[.int .i64 (x.b.k : Int), .slice x.p x.b.D.length x.cap, .int .i64 (x.b.cl : Int), .int .i64 (x.b.pins : Int)] 86)).heap.size := by rw [World.size_alloc]; omega
  have hbZ := below_alloc w (.cells #[.int .i64 (k : Int), .slice none 0 0, .int .i64 0, .int .i64 0] 86)
  have hZ := h.below hbZ
  have ht := qthere_any h (k : Int)
  have ha := qat_any hZ (k : Int)
  have e3 : atI s.P (k : Int) = (P1.length : Int) := by rw [atI, isI_isK, hc]
  rw [e3] at ha
  rw [hh] at ht
  have hil : P1.length < s.L.length := (List.getElem?_eq_some_iff.1 hxi).1
  obtain ⟨g, cap, hg, -, -⟩ := owns_at hZ.row (by omega)
  have c2 := hZ.blk.cell' (i := 2) (v := s.lv) rfl
  rw [hg] at c2
  have f0 := hZ.cellAt hg hxi (j := 0) (by omega) (v := .int .i64 (x.b.k : Int)) rfl
  have f1 := hZ.cellAt hg hxi (j := 1) (by omega) (v := .slice x.p x.b.D.length x.cap) rfl
  have f2 := hZ.cellAt hg hxi (j := 2) (by omega) (v := .int .i64 (x.b.cl : Int)) rfl
  have f3 := hZ.cellAt hg hxi (j := 3) (by omega) (v := .int .i64 (x.b.pins : Int)) rfl
  rw [Nat.add_zero] at f0
  obtain ⟨n, HN⟩ : ∃ n, Hid (s.L.length = n) := ⟨_, rfl⟩
  have HXL : Hid (xs.length = 256) := hx.len
  rw [HN.out] at c2 hil
  clear hP hpy hxi hg hyk hc e3
  generalize P1.length = j at *
  have hji : (j : Int) < (n : Int) := by omega
  by_cases h1c : CL = 1
  · have q1 : ((CL : Int) != 1) = false := by rw [h1c]; rfl
    clear h1c hC
    go_enter Tryz.func28, Tryz.ntmps28
    go_wp2_with (first | (go_at_call 74; refine ht.mono ?_; rintro e w' ⟨rfl, hw'⟩; have hw2 := hw'.symm; subst hw2; clear hw') | (go_at_call 75; refine ha.mono ?_; rintro e w' ⟨rfl, hw'⟩; have hw2 := hw'.symm; subst hw2; clear hw'))
    refine (own_any p c xs _ (hx.below hb0)).mono ?_
    rintro e w2 ⟨p2, c2, rfl, hin2, hb2, hu2⟩
    have kB := k0.kept hb2
    have hA2 := (QAfter.refl h1).kept hb2
    have k3 := kB.set 1 (.slice p2 256 c2)
    have k4 := k3.set 2 (.int .i64 (CL : Int))
    dsimp only [List.set] at k3 k4
    have d1 := kB.cell' (i := 1) rfl
    have f1 := kB.frozen 1
    have d2 := k3.cell' (i := 2) rfl
    have f2 := k3.frozen 2
    have g0 := k4.cell' (i := 0) rfl
    have g1 := k4.cell' (i := 1) rfl
    have g2 := k4.cell' (i := 2) rfl
    have g3 := k4.cell' (i := 3) rfl
    have T4 : Turned w2 ((w2.setCell ⟨w.heap.size, 1, none⟩ (.slice p2 256 c2)).setCell ⟨w.heap.size, 2, none⟩ (.int .i64 (CL : Int))) w.heap.size := (Turned.setCell w2 ⟨w.heap.size, 1, none⟩ _).trans2 (Turned.setCell _ ⟨w.heap.size, 2, none⟩ _)
    have A4 := QAfter.mine h hb0 hA2 (Nat.le_refl _) hsz T4 (blk_no5 kB)
    have hs4 : ∀ a, p2 = some a → ((w2.setCell ⟨w.heap.size, 1, none⟩ (.slice p2 256 c2)).setCell ⟨w.heap.size, 2, none⟩ (.int .i64 (CL : Int))).heap[a.block]? = w2.heap[a.block]? := fun a ha => T4.block _ (hu2.ne ha kB (by decide))
    have hin4 := hin2.same (fun a ha _ => hs4 a ha)
    have hu4 := hu2.same hs4
    have hl := qlast_any A4.qin ⟨⟨x.b.k, xs, CL, x.b.pins⟩, p2, c2⟩ ⟨by show In _ p2 xs.length c2 xs; rw [HXL.out]; exact hin4, hu4⟩ HRM.out
    rw [A4.q] at hl
    dsimp only at hl
    rw [HXL.out] at hl
    go_wp2_with fail
    refine hl.mono ?_
    rintro e w5 ⟨⟨u, rfl⟩, s5, hA5, hP5, -, ht5⟩
    clear hl
    go_wp2_with fail
    go_ret
    exact ⟨rfl, s5, A4.trans hA5, hP5, ht5⟩
  · have q1 : ((CL : Int) != 1) = true := by rw [bne_iff_ne]; omega
    have q2 : ((CL : Int) != 2) = false := by rw [show CL = 2 from by omega]; rfl
    clear h1c hC
    go_enter Tryz.func28, Tryz.ntmps28
    go_wp2_with (first | (go_at_call 74; refine ht.mono ?_; rintro e w' ⟨rfl, hw'⟩; have hw2 := hw'.symm; subst hw2; clear hw') | (go_at_call 75; refine ha.mono ?_; rintro e w' ⟨rfl, hw'⟩; have hw2 := hw'.symm; subst hw2; clear hw'))
    refine (own_any p c xs _ (hx.below hb0)).mono ?_
    rintro e w2 ⟨p2, c2, rfl, hin2, hb2, hu2⟩
    have kB := k0.kept hb2
    have hA2 := (QAfter.refl h1).kept hb2
    have k3 := kB.set 1 (.slice p2 256 c2)
    have k4 := k3.set 2 (.int .i64 (CL : Int))
    dsimp only [List.set] at k3 k4
    have d1 := kB.cell' (i := 1) rfl
    have f1 := kB.frozen 1
    have d2 := k3.cell' (i := 2) rfl
    have f2 := k3.frozen 2
    have g0 := k4.cell' (i := 0) rfl
    have g1 := k4.cell' (i := 1) rfl
    have g2 := k4.cell' (i := 2) rfl
    have g3 := k4.cell' (i := 3) rfl
    have T4 : Turned w2 ((w2.setCell ⟨w.heap.size, 1, none⟩ (.slice p2 256 c2)).setCell ⟨w.heap.size, 2, none⟩ (.int .i64 (CL : Int))) w.heap.size := (Turned.setCell w2 ⟨w.heap.size, 1, none⟩ _).trans2 (Turned.setCell _ ⟨w.heap.size, 2, none⟩ _)
    have A4 := QAfter.mine h hb0 hA2 (Nat.le_refl _) hsz T4 (blk_no5 kB)
    have hs4 : ∀ a, p2 = some a → ((w2.setCell ⟨w.heap.size, 1, none⟩ (.slice p2 256 c2)).setCell ⟨w.heap.size, 2, none⟩ (.int .i64 (CL : Int))).heap[a.block]? = w2.heap[a.block]? := fun a ha => T4.block _ (hu2.ne ha kB (by decide))
    have hin4 := hin2.same (fun a ha _ => hs4 a ha)
    have hu4 := hu2.same hs4
    have hl := qlast_any A4.qin ⟨⟨x.b.k, xs, CL, x.b.pins⟩, p2, c2⟩ ⟨by show In _ p2 xs.length c2 xs; rw [HXL.out]; exact hin4, hu4⟩ HRM.out
    rw [A4.q] at hl
    dsimp only at hl
    rw [HXL.out] at hl
    go_wp2_with fail
    refine hl.mono ?_
    rintro e w5 ⟨⟨u, rfl⟩, s5, hA5, hP5, -, ht5⟩
    clear hl
    go_wp2_with fail
    go_ret
    exact ⟨rfl, s5, A4.trans hA5, hP5, ht5⟩
set_option linter.unusedSimpArgs false in
set_option maxHeartbeats 4000000 in
set_option maxRecDepth 100000 in
theorem qwrite_new {w : World} {s : QS} (h : QIn w s) (k : Nat) (p : Option Addr) (c : Nat) (xs : List Nat) (hx : In w p 256 c xs) (hnp : ∀ a, p = some a → ¬ fpQ s a.block) (CL : Nat) (hC : CL = 1 ∨ CL = 2) (hh : hasB s.t.secs.length (k : Int) = true) (hc : cutAt (isK k) s.P = none) (hcl : ∀ b ∈ s.P, b.cl ≤ 2) (hw1 : s.t.many < 2000) (hw2 : s.t.wrote.length < 2000) {R : Int × List BP × RS} (eR : roomQ s.room s.P s.t = R) (hGr : R.1 = 0 → (dropK R.2.1 k).length + 1 ≤ s.room) : Calls Tryz.prog 28 #[.pointer (some ⟨s.q, 0, none⟩), .int .i64 (k : Int), .slice p 256 c, .int .i64 (CL : Int)] w fun e w' => e = .returned (.int .i64 R.1) ∧ ∃ s', QAfter w w' s s' ∧ s'.P = (if R.1 = 0 then dropK R.2.1 k ++ [⟨k, xs, CL, 0⟩] else R.2.1) ∧ s'.t = R.2.2 := by
  have hb0 := below_alloc w (.cells #[.int .i64 (k : Int), .slice none 0 0, .int .i64 0, .int .i64 0] 86)
  have h1 := h.below hb0
  have k0 : Blk (w.alloc (.cells #[.int .i64 (k : Int), .slice none 0 0, .int .i64 0, .int .i64 0] 86)) w.heap.size 86 [.int .i64 (k : Int), .slice none 0 0, .int .i64 0, .int .i64 0] := Blk.new' w 86 #[.int .i64 (k : Int), .slice none 0 0, .int .i64 0, .int .i64 0]
  have hsz : w.heap.size < (w.alloc (.cells #[.int .i64 (k : Int), .slice none 0 0, .int .i64 0, .int .i64 0] 86)).heap.size := by rw [World.size_alloc]; omega
  have ht := qthere_any h (k : Int)
  have ha := qat_any h1 (k : Int)
  have hrm := qroom_any h1 hcl hw1 hw2
  have e3 : atI s.P (k : Int) = -1 := by rw [atI, isI_isK, hc]
  rw [e3] at ha
  rw [hh] at ht
  rw [eR] at hrm
  have HXL : Hid (xs.length = 256) := hx.len
  obtain ⟨E, l, t⟩ := R
  dsimp only at hGr hrm ⊢
  clear hc e3 eR hh
  by_cases h1c : CL = 1
  · have q1 : ((CL : Int) != 1) = false := by rw [h1c]; rfl
    clear h1c hC
    by_cases hE : E = 0
    · subst hE
      replace hGr := hGr rfl
      rw [if_pos rfl]
      go_enter Tryz.func28, Tryz.ntmps28
      go_wp2_with (first | (go_at_call 74; refine ht.mono ?_; rintro e w' ⟨rfl, hw'⟩; have hw2 := hw'.symm; subst hw2; clear hw') | (go_at_call 75; refine ha.mono ?_; rintro e w' ⟨rfl, hw'⟩; have hw2 := hw'.symm; subst hw2; clear hw') | (go_at_call 76; refine hrm.mono ?_; rintro e w1 ⟨rfl, s1, hA1, hP1, ht1⟩; have k1 := k0.keep hA1.keep (fun e => Nat.lt_irrefl _ (h.lt e))))
      have HRM : Hid ((dropK s1.P k).length + 1 ≤ s1.room) := by show _ ≤ _; rw [hP1, hA1.room]; exact hGr
      refine (own_any p c xs _ ((hx.below hb0).keep hA1.keep hnp)).mono ?_
      rintro e w2 ⟨p2, c2, rfl, hin2, hb2, hu2⟩
      have kB := k1.kept hb2
      have hA2 := hA1.kept hb2
      have k3 := kB.set 1 (.slice p2 256 c2)
      have k4 := k3.set 2 (.int .i64 (CL : Int))
      dsimp only [List.set] at k3 k4
      have d1 := kB.cell' (i := 1) rfl
      have f1 := kB.frozen 1
      have d2 := k3.cell' (i := 2) rfl
      have f2 := k3.frozen 2
      have g0 := k4.cell' (i := 0) rfl
      have g1 := k4.cell' (i := 1) rfl
      have g2 := k4.cell' (i := 2) rfl
      have g3 := k4.cell' (i := 3) rfl
      have T4 : Turned w2 ((w2.setCell ⟨w.heap.size, 1, none⟩ (.slice p2 256 c2)).setCell ⟨w.heap.size, 2, none⟩ (.int .i64 (CL : Int))) w.heap.size := (Turned.setCell w2 ⟨w.heap.size, 1, none⟩ _).trans2 (Turned.setCell _ ⟨w.heap.size, 2, none⟩ _)
      have A4 := QAfter.mine h hb0 hA2 (Nat.le_refl _) hsz T4 (blk_no5 kB)
      have hs4 : ∀ a, p2 = some a → ((w2.setCell ⟨w.heap.size, 1, none⟩ (.slice p2 256 c2)).setCell ⟨w.heap.size, 2, none⟩ (.int .i64 (CL : Int))).heap[a.block]? = w2.heap[a.block]? := fun a ha => T4.block _ (hu2.ne ha kB (by decide))
      have hin4 := hin2.same (fun a ha _ => hs4 a ha)
      have hu4 := hu2.same hs4
      have hl := qlast_any A4.qin ⟨⟨k, xs, CL, 0⟩, p2, c2⟩ ⟨by show In _ p2 xs.length c2 xs; rw [HXL.out]; exact hin4, hu4⟩ HRM.out
      rw [A4.q] at hl
      dsimp only at hl
      rw [HXL.out] at hl
      go_wp2_with fail
      refine hl.mono ?_
      rintro e w5 ⟨⟨u, rfl⟩, s5, hA5, hP5, -, ht5⟩
      clear hl
      go_wp2_with fail
      go_ret
      exact ⟨rfl, s5, A4.trans hA5, by rw [hP5, hP1], by rw [ht5, ht1]⟩
    · rw [if_neg hE]
      have hEi : (E != 0) = true := by rw [bne_iff_ne]; exact hE
      go_enter Tryz.func28, Tryz.ntmps28
      go_wp2_with (first | (go_at_call 74; refine ht.mono ?_; rintro e w' ⟨rfl, hw'⟩; have hw2 := hw'.symm; subst hw2; clear hw') | (go_at_call 75; refine ha.mono ?_; rintro e w' ⟨rfl, hw'⟩; have hw2 := hw'.symm; subst hw2; clear hw') | (go_at_call 76; refine hrm.mono ?_; rintro e w1 ⟨rfl, s1, hA1, hP1, ht1⟩; have k1 := k0.keep hA1.keep (fun e => Nat.lt_irrefl _ (h.lt e))))
      go_ret
      exact ⟨rfl, s1, hA1.drop hb0, hP1, ht1⟩
  · have q1 : ((CL : Int) != 1) = true := by rw [bne_iff_ne]; omega
    have q2 : ((CL : Int) != 2) = false := by rw [show CL = 2 from by omega]; rfl
    clear h1c hC
    by_cases hE : E = 0
    · subst hE
      replace hGr := hGr rfl
      rw [if_pos rfl]
      go_enter Tryz.func28, Tryz.ntmps28
      go_wp2_with (first | (go_at_call 74; refine ht.mono ?_; rintro e w' ⟨rfl, hw'⟩; have hw2 := hw'.symm; subst hw2; clear hw') | (go_at_call 75; refine ha.mono ?_; rintro e w' ⟨rfl, hw'⟩; have hw2 := hw'.symm; subst hw2; clear hw') | (go_at_call 76; refine hrm.mono ?_; rintro e w1 ⟨rfl, s1, hA1, hP1, ht1⟩; have k1 := k0.keep hA1.keep (fun e => Nat.lt_irrefl _ (h.lt e))))
      have HRM : Hid ((dropK s1.P k).length + 1 ≤ s1.room) := by show _ ≤ _; rw [hP1, hA1.room]; exact hGr
      refine (own_any p c xs _ ((hx.below hb0).keep hA1.keep hnp)).mono ?_
      rintro e w2 ⟨p2, c2, rfl, hin2, hb2, hu2⟩
      have kB := k1.kept hb2
      have hA2 := hA1.kept hb2
      have k3 := kB.set 1 (.slice p2 256 c2)
      have k4 := k3.set 2 (.int .i64 (CL : Int))
      dsimp only [List.set] at k3 k4
      have d1 := kB.cell' (i := 1) rfl
      have f1 := kB.frozen 1
      have d2 := k3.cell' (i := 2) rfl
      have f2 := k3.frozen 2
      have g0 := k4.cell' (i := 0) rfl
      have g1 := k4.cell' (i := 1) rfl
      have g2 := k4.cell' (i := 2) rfl
      have g3 := k4.cell' (i := 3) rfl
      have T4 : Turned w2 ((w2.setCell ⟨w.heap.size, 1, none⟩ (.slice p2 256 c2)).setCell ⟨w.heap.size, 2, none⟩ (.int .i64 (CL : Int))) w.heap.size := (Turned.setCell w2 ⟨w.heap.size, 1, none⟩ _).trans2 (Turned.setCell _ ⟨w.heap.size, 2, none⟩ _)
      have A4 := QAfter.mine h hb0 hA2 (Nat.le_refl _) hsz T4 (blk_no5 kB)
      have hs4 : ∀ a, p2 = some a → ((w2.setCell ⟨w.heap.size, 1, none⟩ (.slice p2 256 c2)).setCell ⟨w.heap.size, 2, none⟩ (.int .i64 (CL : Int))).heap[a.block]? = w2.heap[a.block]? := fun a ha => T4.block _ (hu2.ne ha kB (by decide))
      have hin4 := hin2.same (fun a ha _ => hs4 a ha)
      have hu4 := hu2.same hs4
      have hl := qlast_any A4.qin ⟨⟨k, xs, CL, 0⟩, p2, c2⟩ ⟨by show In _ p2 xs.length c2 xs; rw [HXL.out]; exact hin4, hu4⟩ HRM.out
      rw [A4.q] at hl
      dsimp only at hl
      rw [HXL.out] at hl
      go_wp2_with fail
      refine hl.mono ?_
      rintro e w5 ⟨⟨u, rfl⟩, s5, hA5, hP5, -, ht5⟩
      clear hl
      go_wp2_with fail
      go_ret
      exact ⟨rfl, s5, A4.trans hA5, by rw [hP5, hP1], by rw [ht5, ht1]⟩
    · rw [if_neg hE]
      have hEi : (E != 0) = true := by rw [bne_iff_ne]; exact hE
      go_enter Tryz.func28, Tryz.ntmps28
      go_wp2_with (first | (go_at_call 74; refine ht.mono ?_; rintro e w' ⟨rfl, hw'⟩; have hw2 := hw'.symm; subst hw2; clear hw') | (go_at_call 75; refine ha.mono ?_; rintro e w' ⟨rfl, hw'⟩; have hw2 := hw'.symm; subst hw2; clear hw') | (go_at_call 76; refine hrm.mono ?_; rintro e w1 ⟨rfl, s1, hA1, hP1, ht1⟩; have k1 := k0.keep hA1.keep (fun e => Nat.lt_irrefl _ (h.lt e))))
      go_ret
      exact ⟨rfl, s1, hA1.drop hb0, hP1, ht1⟩
end Go.Proofs.YtdmnddikcpfmfaaGreat
