/-
  What a state learns of a row of blocks: learnBlocks.
-/
import Derived.Test.YtpikaagdiafieaaMjFrame
namespace Go.Proofs.Ytpikaagdiafieaa
open Go.RowKit
set_option maxHeartbeats 1000000 in
theorem learnBlocksK (B g : Nat) (V : SV) (s : MS) (f : Nat) (pb : Option Addr) (nb cb : Nat) (bb : List Bool) (qw : Option Addr) (dw : Nat) (ww : List Int) (w : World) (h : BoxS B w g V s) (hV : V.m = V.n) (hf : f ≤ 1000000)
    (hbb : ∀ W, Below B w W → InB W pb nb cb bb) (hww : ∀ W, Below B w W → InI W qw nb dw ww) :
    Calls Try.prog 47 #[.pointer (some ⟨g, 0, none⟩), .int .i64 (f : Int), .slice pb nb cb, .slice qw nb dw] w fun e w' => e = .returned (.tuple #[]) ∧ BoxS B w' g V ⟨upB s.bad f (min nb (V.n - f)) bb, upW s.wear f (min nb (V.n - f)) ww, s.seq⟩ ∧ Fr B g V w w' := by
  obtain ⟨p, n0, c, q, n, d⟩ := V
  dsimp only at hV
  subst hV
  dsimp only
  have HL : Hid (s.bad.length = n) := h.own.inS.b.len
  have hnb : nb ≤ 1125899906842624 := (hbb w (Below.refl _ _)).room
  have hn : n ≤ 1125899906842624 := h.own.hn
  have c9 := h.box.cell' (i := 0) rfl
  have hbbX := hbb w (Below.refl _ _)
  by_cases hmin : (n : Int) - (f : Int) < (nb : Int)
  · go_enter Try.func47, Try.ntmps47
    go_wp2
    clear c9
    go_loopw [19] (fun i wr => ∃ k : Nat, (k : Int) ≤ max ((n : Int) - (f : Int)) 0 ∧ i = .int .i64 k ∧ BoxS B wr g ⟨p, n, c, q, n, d⟩ ⟨upB s.bad f k bb, upW s.wear f k ww, s.seq⟩ ∧ Fr B g ⟨p, n, c, q, n, d⟩ w wr) (fun i _ => (((n : Int) - (f : Int))).toNat - (intOf i).toNat)
    case atStart => exact ⟨0, by omega, rfl, by rw [upB_zero, upW_zero]; exact h, Fr.refl _ _ _ _⟩
    case round =>
      obtain ⟨k, hk, rfl, hx, hbel⟩ := hrel
      by_cases hlt : (k : Int) < ((n : Int) - (f : Int))
      · obtain ⟨gb, ob, rfl, hbl, hcb⟩ := (hbb wr hbel.bel).at' (by omega)
        have hck := hcb k (by omega)
        obtain ⟨gw, ow, rfl, hwl, hcw⟩ := (hww wr hbel.bel).at' (by omega)
        have hcv := hcw k (by omega)
        clear hcb hcw hbl hwl
        have hfk : f + k < n := by omega
        have hfi : (f : Int) + (k : Int) < (n : Int) := by omega
        have hf0 : (0 : Int) ≤ (f : Int) + (k : Int) := by omega
        obtain ⟨gp, rfl, hgp, hgpl⟩ := owns_at hx.own.b (by dsimp only; omega)
        obtain ⟨fk, HF⟩ : ∃ fk : Nat, Hid (fk = f + k) := ⟨f + k, (rfl : f + k = f + k)⟩
        have hF : (f : Int) + (k : Int) = (fk : Int) := by rw [HF.out]; omega
        have hbox := hx.box
        have c0 := hbox.cell' (i := 0) rfl
        have c1 := hx.own.b.cellAt fk (by dsimp only; rw [HF.out]; omega)
        rw [valsB_get _ _ (by rw [HF.out, upB_length]; have := HL.out; omega)] at c1
        have cf := hx.own.b.frozenAt fk
        have hfkn : fk < n := by rw [HF.out]; exact hfk
        have hlw := fun (W : World) (h' : BoxS B W g ⟨some ⟨gp, 0, none⟩, n, c, q, n, d⟩ ⟨upB s.bad f (k + 1) bb, upW s.wear f k ww, s.seq⟩) => learnWearK B g _ _ fk (eI ww k) W h' hfkn
        have E : Hid ((upW s.wear f k ww).set fk (max (eI (upW s.wear f k ww) fk) (eI ww k)) = upW s.wear f (k + 1) ww) := by
          show _ = _
          rw [HF.out, upW_old, upW_next]
        cases hbk : eB bb k with
        | true =>
          rw [hbk] at hck
          have E2 : Hid ((upB s.bad f k bb).set fk true = upB s.bad f (k + 1) bb) := by show _ = _; rw [HF.out]; exact upB_yes hbk
          have hst := (hx.own.b.stored fk (.bool true)).1
          rw [show (valsB (upB s.bad f k bb)).set fk (.bool true) = valsB (upB s.bad f (k + 1) bb) by rw [← E2.out]; simp [valsB, List.map_set]] at hst
          have hbx := hx.setBad rfl (Turned.setCell wr ⟨gp, fk, none⟩ (.bool true)) hst
          have hb2 := hbel.of (Turned.setCell wr ⟨gp, fk, none⟩ (.bool true)) hgp (.inr (.inl ⟨_, rfl, rfl⟩))
          have hcv2 : (wr.setCell ⟨gp, fk, none⟩ (.bool true)).cell? ⟨gw, ow + k, none⟩ = some (.int .i64 (eI ww k)) := by
            obtain ⟨b2, o2, e2, _, h2⟩ := (hww _ hb2.bel).at' (by omega)
            cases e2
            exact h2 k (by omega)
          clear hbox hst hfk hbbX
          go_wp2_with (go_at_call 74; refine (hlw _ hbx).mono ?_; rintro e W2 ⟨rfl, hx2, hbl2⟩)
          go_roundw
          case rel =>
            rw [E.out] at hx2
            exact ⟨k + 1, by omega, by go_num, hx2, hb2.trans hbl2⟩
          case measure => simp [intOf]; omega
        | false =>
          rw [hbk] at hck
          rw [upB_no hbk] at hx
          clear hbox hfk hbbX c0 c1 cf
          go_wp2_with (go_at_call 74; refine (hlw _ hx).mono ?_; rintro e W2 ⟨rfl, hx2, hbl2⟩)
          go_roundw
          case rel =>
            rw [E.out] at hx2
            exact ⟨k + 1, by omega, by go_num, hx2, hbel.trans hbl2⟩
          case measure => simp [intOf]; omega
      · go_wp2
        go_end0
        have hkc : k = min nb (n - f) := by omega
        rw [hkc] at hx
        exact ⟨rfl, hx, hbel⟩
  · go_enter Try.func47, Try.ntmps47
    go_wp2
    clear c9
    go_loopw [19] (fun i wr => ∃ k : Nat, (k : Int) ≤ max (nb : Int) 0 ∧ i = .int .i64 k ∧ BoxS B wr g ⟨p, n, c, q, n, d⟩ ⟨upB s.bad f k bb, upW s.wear f k ww, s.seq⟩ ∧ Fr B g ⟨p, n, c, q, n, d⟩ w wr) (fun i _ => ((nb : Int)).toNat - (intOf i).toNat)
    case atStart => exact ⟨0, by omega, rfl, by rw [upB_zero, upW_zero]; exact h, Fr.refl _ _ _ _⟩
    case round =>
      obtain ⟨k, hk, rfl, hx, hbel⟩ := hrel
      by_cases hlt : (k : Int) < (nb : Int)
      · obtain ⟨gb, ob, rfl, hbl, hcb⟩ := (hbb wr hbel.bel).at' (by omega)
        have hck := hcb k (by omega)
        obtain ⟨gw, ow, rfl, hwl, hcw⟩ := (hww wr hbel.bel).at' (by omega)
        have hcv := hcw k (by omega)
        clear hcb hcw hbl hwl
        have hfk : f + k < n := by omega
        have hfi : (f : Int) + (k : Int) < (n : Int) := by omega
        have hf0 : (0 : Int) ≤ (f : Int) + (k : Int) := by omega
        obtain ⟨gp, rfl, hgp, hgpl⟩ := owns_at hx.own.b (by dsimp only; omega)
        obtain ⟨fk, HF⟩ : ∃ fk : Nat, Hid (fk = f + k) := ⟨f + k, (rfl : f + k = f + k)⟩
        have hF : (f : Int) + (k : Int) = (fk : Int) := by rw [HF.out]; omega
        have hbox := hx.box
        have c0 := hbox.cell' (i := 0) rfl
        have c1 := hx.own.b.cellAt fk (by dsimp only; rw [HF.out]; omega)
        rw [valsB_get _ _ (by rw [HF.out, upB_length]; have := HL.out; omega)] at c1
        have cf := hx.own.b.frozenAt fk
        have hfkn : fk < n := by rw [HF.out]; exact hfk
        have hlw := fun (W : World) (h' : BoxS B W g ⟨some ⟨gp, 0, none⟩, n, c, q, n, d⟩ ⟨upB s.bad f (k + 1) bb, upW s.wear f k ww, s.seq⟩) => learnWearK B g _ _ fk (eI ww k) W h' hfkn
        have E : Hid ((upW s.wear f k ww).set fk (max (eI (upW s.wear f k ww) fk) (eI ww k)) = upW s.wear f (k + 1) ww) := by
          show _ = _
          rw [HF.out, upW_old, upW_next]
        cases hbk : eB bb k with
        | true =>
          rw [hbk] at hck
          have E2 : Hid ((upB s.bad f k bb).set fk true = upB s.bad f (k + 1) bb) := by show _ = _; rw [HF.out]; exact upB_yes hbk
          have hst := (hx.own.b.stored fk (.bool true)).1
          rw [show (valsB (upB s.bad f k bb)).set fk (.bool true) = valsB (upB s.bad f (k + 1) bb) by rw [← E2.out]; simp [valsB, List.map_set]] at hst
          have hbx := hx.setBad rfl (Turned.setCell wr ⟨gp, fk, none⟩ (.bool true)) hst
          have hb2 := hbel.of (Turned.setCell wr ⟨gp, fk, none⟩ (.bool true)) hgp (.inr (.inl ⟨_, rfl, rfl⟩))
          have hcv2 : (wr.setCell ⟨gp, fk, none⟩ (.bool true)).cell? ⟨gw, ow + k, none⟩ = some (.int .i64 (eI ww k)) := by
            obtain ⟨b2, o2, e2, _, h2⟩ := (hww _ hb2.bel).at' (by omega)
            cases e2
            exact h2 k (by omega)
          clear hbox hst hfk hbbX
          go_wp2_with (go_at_call 74; refine (hlw _ hbx).mono ?_; rintro e W2 ⟨rfl, hx2, hbl2⟩)
          go_roundw
          case rel =>
            rw [E.out] at hx2
            exact ⟨k + 1, by omega, by go_num, hx2, hb2.trans hbl2⟩
          case measure => simp [intOf]; omega
        | false =>
          rw [hbk] at hck
          rw [upB_no hbk] at hx
          clear hbox hfk hbbX c0 c1 cf
          go_wp2_with (go_at_call 74; refine (hlw _ hx).mono ?_; rintro e W2 ⟨rfl, hx2, hbl2⟩)
          go_roundw
          case rel =>
            rw [E.out] at hx2
            exact ⟨k + 1, by omega, by go_num, hx2, hbel.trans hbl2⟩
          case measure => simp [intOf]; omega
      · go_wp2
        go_end0
        have hkc : k = min nb (n - f) := by omega
        rw [hkc] at hx
        exact ⟨rfl, hx, hbel⟩
end Go.Proofs.Ytpikaagdiafieaa
