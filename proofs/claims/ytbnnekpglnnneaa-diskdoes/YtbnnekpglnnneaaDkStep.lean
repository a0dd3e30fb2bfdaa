/-
  One operation of the law with both disks.
-/
import Derived.Test.YtbnnekpglnnneaaDkDoesP
import Derived.Test.YtbnnekpglnnneaaDkClone
namespace Go.Proofs.Ytbnnekpglnnneaa
open Go.RowKit
structure Two (B0 : Nat) (w : World) (d sb : Nat) (lv : Value) (s : DS) (r : Nat) (V : RV) (t : RS) : Prop where
  D : DiskIn w d sb lv s
  R : RefIn w r V t
  rel : DRel s t
  fd : ∀ k, fpD d sb lv k → B0 ≤ k
  fr : ∀ k, fpR r V k → B0 ≤ k
  le : B0 ≤ w.heap.size
theorem Two.below {B0 : Nat} {w w' : World} {d sb : Nat} {lv : Value} {s : DS} {r : Nat} {V : RV} {t : RS} (h : Two B0 w d sb lv s r V t) (hb : Below w.heap.size w w') : Two B0 w' d sb lv s r V t :=
  ⟨h.D.below hb, h.R.below hb, h.rel, h.fd, h.fr, Nat.le_trans h.le hb.size⟩
theorem below_low {B C : Nat} {w w' : World} (h : Below B w w') (hC : C ≤ B) : Below C w w' := ⟨h.os, h.tape, h.output, h.size, fun k hk => h.block k (Nat.lt_of_lt_of_le hk hC)⟩
/-- The disk did something. -/
theorem Two.disk {B0 : Nat} {w w' : World} {d sb : Nat} {lv lv' : Value} {s s' : DS} {r : Nat} {V : RV} {t : RS} (h : Two B0 w d sb lv s r V t) (A : DAfter w w' d sb lv lv' s') : RefIn w' r V t ∧ Below B0 w w' ∧ (∀ k, fpD d sb lv' k → B0 ≤ k) :=
  ⟨h.R.keepD h.D A.keep, A.belowB h.le h.fd, A.fp h.le h.fd⟩
/-- Then the document's disk did. -/
theorem Two.both {B0 : Nat} {w w' w2 : World} {d sb : Nat} {lv lv' : Value} {s s' : DS} {r : Nat} {V V' : RV} {t t' : RS} (h : Two B0 w d sb lv s r V t) (A : DAfter w w' d sb lv lv' s') (C : RAfter w' w2 r V V' t') (hrel : DRel s' t') : Two B0 w2 d sb lv' s' r V' t' ∧ Below B0 w w2 := by
  obtain ⟨hR, hb, hf⟩ := h.disk A
  have hB' : B0 ≤ w'.heap.size := Nat.le_trans h.le hb.size
  have hbR : Below B0 w' w2 := C.keep.below hB' h.fr
  refine ⟨⟨A.disk.keepR hR C.keep, C.ref, hrel, hf, fun k hk => ?_, Nat.le_trans hB' hbR.size⟩, hb.trans hbR⟩
  rcases C.fr k hk with e | e
  · exact h.fr k e
  · omega
def StepOk (B0 : Nat) (s : DS) (r : Nat) (w : World) (e : Ending) (w' : World) : Prop :=
  ∃ d' sb' lv' s' V' t', e = .returned (.tuple #[.pointer (some ⟨d', 0, none⟩), .bool true]) ∧ Two B0 w' d' sb' lv' s' r V' t' ∧ s'.writes ≤ s.writes + 1 ∧ Below B0 w w'
theorem rwrite_short {w : World} {r : Nat} {V : RV} {t : RS} (h : RefIn w r V t) (i : Int) (p : Option Addr) (n c : Nat) (xs : List Nat) (hx : In w p n c xs) (hn : n ≠ 256) :
    Calls Try.prog 22 #[.pointer (some ⟨r, 0, none⟩), .int .i64 i, .slice p n c] w fun e w' => e = .returned (.int .i64 (rwE t i n)) ∧ ∃ V', RAfter w w' r V V' (rwS t i xs) := by
  have hh := there_any h i
  have g2 := h.blk.cell' (i := 2) (v := .bool t.gone) rfl
  have hxl : xs.length ≠ 256 := by rw [hx.len]; exact hn
  have hni : ¬ (n : Int) = 256 := by omega
  have hroom := hx.room
  cases hg : t.gone
  · have e1 : rwE t i n = 1 := by simp [rwE, hg, hn]
    have e2 : rwS t i xs = t := by simp [rwS, hg, hxl]
    rw [e1, e2]
    rw [hg] at g2
    clear e1 e2
    cases hb : hasB t.secs.length i <;> rw [hb] at hh
    · go_enter Try.func22, Try.ntmps22
      go_wp2_with (go_at_call 46; refine hh.mono ?_; rintro e w' ⟨rfl, hw'⟩; have hw2 := hw'.symm; subst hw2; clear hw')
      go_ret
      exact ⟨rfl, _, RAfter.refl h⟩
    · go_enter Try.func22, Try.ntmps22
      go_wp2_with (go_at_call 46; refine hh.mono ?_; rintro e w' ⟨rfl, hw'⟩; have hw2 := hw'.symm; subst hw2; clear hw')
      go_ret
      exact ⟨rfl, _, RAfter.refl h⟩
  · have e1 : rwE t i n = 8 := by simp [rwE, hg]
    have e2 : rwS t i xs = t := by simp [rwS, hg]
    rw [e1, e2]
    rw [hg] at g2
    go_enter Try.func22, Try.ntmps22
    go_wp2
    go_ret
    exact ⟨rfl, _, RAfter.refl h⟩
theorem In.none0 {w w' : World} {p : Option Addr} {n c : Nat} {xs : List Nat} (h : In w p n c xs) (h0 : n = 0) : In w' p n c xs := ⟨h.len, h.cap, h.max, h.room, h.byte, fun h1 => by omega, h.nil⟩
theorem blk_fpD {w : World} {d sb : Nat} {lv : Value} {s : DS} (h : DiskIn w d sb lv s) {g : Nat} {ty : TypeId} {cs : List Value} (hg : Blk w g ty cs) (h1 : 65 ≠ ty) (h2 : 83 ≠ ty) (h3 : ty ≠ 87) (hf : fpD d sb lv g) : False := by
  rcases hf with e | e | e
  · exact blk_ne h.ram hg h1 e.symm
  · exact blk_ne h.row hg h2 e.symm
  · exact owns_ne h.log e hg h3 rfl
theorem blk_fpR {w : World} {r : Nat} {V : RV} {t : RS} (h : RefIn w r V t) {g : Nat} {ty : TypeId} {cs : List Value} (hg : Blk w g ty cs) (h1 : 40 ≠ ty) (h2 : ty ≠ 31) (h3 : ty ≠ 4) (h4 : ty ≠ 78) (hf : fpR r V g) : False := by
  rcases hf with e | e | e | e
  · exact blk_ne h.blk hg h1 e.symm
  · exact owns_ne h.srow e hg h2 rfl
  · exact owns_ne h.brow e hg h3 rfl
  · exact owns_ne h.wrow e hg h4 rfl
set_option linter.unusedSimpArgs false in
set_option maxRecDepth 100000 in
set_option maxHeartbeats 2000000 in
theorem step_read {B0 : Nat} {w : World} {d sb : Nat} {lv : Value} {s : DS} {r : Nat} {V : RV} {t : RS} (T : Two B0 w d sb lv s r V t) (i : Int) (q : Option Addr) (m c : Nat) (sh : Bool) : Calls Try.prog 10 #[.pointer (some ⟨d, 0, none⟩), .pointer (some ⟨r, 0, none⟩), opV 0 i q m c sh] w (StepOk B0 s r w) := by
  have hb1 := below_alloc w (.cells #[.int .i64 0, .int .i64 i, .slice q m c, .bool sh] 33)
  have g1 := Blk.new' w 33 #[.int .i64 0, .int .i64 i, .slice q m c, .bool sh]
  have T1 := T.below hb1
  have hb1B := below_low hb1 T.le
  have k0 := g1.cell' (i := 0) (v := .int .i64 0) rfl
  have k1 := g1.cell' (i := 1) (v := .int .i64 i) rfl
  have hrd := read_any T1.D i
  obtain ⟨er1, er2⟩ := T.rel.read i
  have hrr := fun (W : World) (hW : Below (w.alloc (.cells #[.int .i64 0, .int .i64 i, .slice q m c, .bool sh] 33)).heap.size (w.alloc (.cells #[.int .i64 0, .int .i64 i, .slice q m c, .bool sh] 33)) W) => rread_any (T1.R.below hW) i
  rw [er1, er2] at hrr
  clear er1 er2
  have hg1 := g1.lt
  generalize readD s i = D at *
  generalize readE s i = E at *
  have hee : (D == D) = true := beq_self_eq_true _
  unfold opV
  go_enter Try.func10, Try.ntmps10
  go_wp2_with (first
    | (go_at_call 29; refine hrd.mono ?_; rintro e w2 ⟨p2, c2, rfl, hin2, hb2, _⟩; have k2 := (hb2.cell (p := ⟨w.heap.size, 1, none⟩) hg1).trans k1)
    | (go_at_call 35; refine (hrr _ hb2).mono ?_; rintro e w3 ⟨p3, c3, rfl, hin3, hb3, _⟩; have hq := equal_any _ _ _ _ _ _ _ _ w3 (hin2.below hb3) hin3; rw [hee] at hq)
    | (go_at_call 30; refine hq.mono ?_; rintro e w' ⟨rfl, hw'⟩; have hw2 := hw'.symm; subst hw2; clear hw'))
  go_ret2
  exact ⟨_, _, _, _, _, _, rfl, (T1.below hb2).below hb3, Nat.le_succ _, hb1B.trans (below_low (bt hb2 hb3) T1.le)⟩
set_option linter.unusedSimpArgs false in
set_option maxRecDepth 100000 in
set_option maxHeartbeats 2000000 in
theorem step_flush {B0 : Nat} {w : World} {d sb : Nat} {lv : Value} {s : DS} {r : Nat} {V : RV} {t : RS} (T : Two B0 w d sb lv s r V t) (i : Int) (q : Option Addr) (m c : Nat) (sh : Bool) : Calls Try.prog 10 #[.pointer (some ⟨d, 0, none⟩), .pointer (some ⟨r, 0, none⟩), opV 2 i q m c sh] w (StepOk B0 s r w) := by
  have hb1 := below_alloc w (.cells #[.int .i64 2, .int .i64 i, .slice q m c, .bool sh] 33)
  have g1 := Blk.new' w 33 #[.int .i64 2, .int .i64 i, .slice q m c, .bool sh]
  have T1 := T.below hb1
  have hb1B := below_low hb1 T.le
  have k0 := g1.cell' (i := 0) (v := .int .i64 2) rfl
  have k1 := g1.cell' (i := 1) (v := .int .i64 i) rfl
  have hf := flush_any T1.D
  have hrf := rflush_any T1.R
  rw [T.rel.power] at hrf
  generalize powE s.on = E at *
  unfold opV
  go_enter Try.func10, Try.ntmps10
  go_wp2_with (first
    | (go_at_call 32; refine hf.mono ?_; rintro e w' ⟨rfl, hw'⟩; have hw2 := hw'.symm; subst hw2; clear hw')
    | (go_at_call 36; refine hrf.mono ?_; rintro e w' ⟨rfl, hw'⟩; have hw2 := hw'.symm; subst hw2; clear hw'))
  go_ret2
  exact ⟨_, _, _, _, _, _, rfl, T1, Nat.le_succ _, hb1B⟩
set_option linter.unusedSimpArgs false in
set_option maxRecDepth 100000 in
set_option maxHeartbeats 2000000 in
theorem step_cut {B0 : Nat} {w : World} {d sb : Nat} {lv : Value} {s : DS} {r : Nat} {V : RV} {t : RS} (T : Two B0 w d sb lv s r V t) (i : Int) (q : Option Addr) (m c : Nat) (sh : Bool) (hi : -9223372036854775808 ≤ i ∧ i ≤ 9223372036854775807) : Calls Try.prog 10 #[.pointer (some ⟨d, 0, none⟩), .pointer (some ⟨r, 0, none⟩), opV 3 i q m c sh] w (StepOk B0 s r w) := by
  have hb1 := below_alloc w (.cells #[.int .i64 3, .int .i64 i, .slice q m c, .bool sh] 33)
  have g1 := Blk.new' w 33 #[.int .i64 3, .int .i64 i, .slice q m c, .bool sh]
  have T1 := T.below hb1
  have hb1B := below_low hb1 T.le
  have k0 := g1.cell' (i := 0) (v := .int .i64 3) rfl
  have k1 := g1.cell' (i := 1) (v := .int .i64 i) rfl
  have hc := cut_any T1.D i hi
  have hg1 := g1.lt
  unfold opV
  go_enter Try.func10, Try.ntmps10
  go_wp2_with (first
    | (go_at_call 19; refine hc.mono ?_; rintro e w2 ⟨⟨u, rfl⟩, A⟩; have k2 := (World.cell?_of_block (a := ⟨w.heap.size, 1, none⟩) (A.keep.block w.heap.size hg1 (fun e => blk_fpD T1.D g1 (by decide) (by decide) (by decide) e))).trans k1; have hrc := rcut_any (T1.disk A).1 i hi)
    | (go_at_call 37; refine hrc.mono ?_; rintro e w3 ⟨⟨u3, rfl⟩, C⟩; have TB := T1.both A C (T.rel.cut i)))
  go_ret2
  exact ⟨_, _, _, _, _, _, rfl, TB.1, Nat.le_succ _, hb1B.trans TB.2⟩
set_option linter.unusedSimpArgs false in
set_option maxRecDepth 100000 in
set_option maxHeartbeats 2000000 in
theorem step_restart {B0 : Nat} {w : World} {d sb : Nat} {lv : Value} {s : DS} {r : Nat} {V : RV} {t : RS} (T : Two B0 w d sb lv s r V t) (i : Int) (q : Option Addr) (m c : Nat) (sh : Bool) : Calls Try.prog 10 #[.pointer (some ⟨d, 0, none⟩), .pointer (some ⟨r, 0, none⟩), opV 4 i q m c sh] w (StepOk B0 s r w) := by
  have hb1 := below_alloc w (.cells #[.int .i64 4, .int .i64 i, .slice q m c, .bool sh] 33)
  have g1 := Blk.new' w 33 #[.int .i64 4, .int .i64 i, .slice q m c, .bool sh]
  have T1 := T.below hb1
  have hb1B := below_low hb1 T.le
  have k0 := g1.cell' (i := 0) (v := .int .i64 4) rfl
  have k1 := g1.cell' (i := 1) (v := .int .i64 i) rfl
  have hc := restart_any T1.D
  unfold opV
  go_enter Try.func10, Try.ntmps10
  go_wp2_with (first
    | (go_at_call 23; refine hc.mono ?_; rintro e w2 ⟨⟨u, rfl⟩, A⟩; have hrc := rrestart_any (T1.disk A).1)
    | (go_at_call 38; refine hrc.mono ?_; rintro e w3 ⟨⟨u3, rfl⟩, C⟩; have TB := T1.both A C T.rel.restart))
  go_ret2
  exact ⟨_, _, _, _, _, _, rfl, TB.1, Nat.le_succ _, hb1B.trans TB.2⟩
set_option linter.unusedSimpArgs false in
set_option maxRecDepth 100000 in
set_option maxHeartbeats 2000000 in
theorem step_other {B0 : Nat} {w : World} {d sb : Nat} {lv : Value} {s : DS} {r : Nat} {V : RV} {t : RS} (T : Two B0 w d sb lv s r V t) (k i : Int) (q : Option Addr) (m c : Nat) (sh : Bool) (h0 : k ≠ 0) (h1 : k ≠ 1) (h2 : k ≠ 2) (h3 : k ≠ 3) (h4 : k ≠ 4) (h5 : k ≠ 5) (h6 : k ≠ 6) : Calls Try.prog 10 #[.pointer (some ⟨d, 0, none⟩), .pointer (some ⟨r, 0, none⟩), opV k i q m c sh] w (StepOk B0 s r w) := by
  have hb1 := below_alloc w (.cells #[.int .i64 k, .int .i64 i, .slice q m c, .bool sh] 33)
  have g1 := Blk.new' w 33 #[.int .i64 k, .int .i64 i, .slice q m c, .bool sh]
  have T1 := T.below hb1
  have hb1B := below_low hb1 T.le
  have k0 := g1.cell' (i := 0) (v := .int .i64 k) rfl
  have k1 := g1.cell' (i := 1) (v := .int .i64 i) rfl
  unfold opV
  go_enter Try.func10, Try.ntmps10
  go_wp2
  go_ret2
  exact ⟨_, _, _, _, _, _, rfl, T1, Nat.le_succ _, hb1B⟩
set_option linter.unusedSimpArgs false in
set_option maxRecDepth 100000 in
set_option maxHeartbeats 2000000 in
theorem step_clone {B0 : Nat} {w : World} {d sb : Nat} {lv : Value} {s : DS} {r : Nat} {V : RV} {t : RS} (T : Two B0 w d sb lv s r V t) (i : Int) (q : Option Addr) (m c : Nat) (sh : Bool) (hw : s.writes < 1000) : Calls Try.prog 10 #[.pointer (some ⟨d, 0, none⟩), .pointer (some ⟨r, 0, none⟩), opV 6 i q m c sh] w (StepOk B0 s r w) := by
  have hb1 := below_alloc w (.cells #[.int .i64 6, .int .i64 i, .slice q m c, .bool sh] 33)
  have g1 := Blk.new' w 33 #[.int .i64 6, .int .i64 i, .slice q m c, .bool sh]
  have T1 := T.below hb1
  have hb1B := below_low hb1 T.le
  have k0 := g1.cell' (i := 0) (v := .int .i64 6) rfl
  have k1 := g1.cell' (i := 1) (v := .int .i64 i) rfl
  have hc := cloneD_any T1.D
  have hw1 : s.writes < 1024 := by omega
  unfold opV
  go_enter Try.func10, Try.ntmps10
  go_wp2_with (go_at_call 26; refine hc.mono ?_; rintro e w2 ⟨hb2, d2, sb2, lv2, cap2, sp2, rfl, hfp2, hD2⟩; have T2 := T1.below hb2)
  have hb3 := below_alloc w2 (.cells #[.int .u8 99] 5)
  have hlit : In (w2.alloc (.cells #[.int .u8 99] 5)) (some ⟨w2.heap.size, 0, none⟩) 1 1 [99] := in_lit w2 (by rfl) rfl (by simp) (by omega)
  have hrep := repeat_small [99] w2.heap.size 0 1 1 256 256 (by omega) (by omega) rfl (by omega) _ hlit
  refine hrep.mono ?_
  clear hrep hlit
  rintro e w4 ⟨rfl, hin4, hb4⟩
  have hT4 := (T2.below hb3).below hb4
  generalize cyc [99] 256 = X at hin4
  rw [World.size_alloc] at hin4
  go_wp2_with fail
  refine (write_any hT4.D 0 _ 256 256 X hin4 hw1).mono ?_
  rintro e w5 ⟨rfl, lv5, A⟩
  go_wp2_with fail
  go_ret2
  have b24 := bt hb3 hb4
  have hlt1 : ∀ j, fpD d sb lv j → j < (w.alloc (.cells #[.int .i64 6, .int .i64 i, .slice q m c, .bool sh] 33)).heap.size := fun j hj => T1.D.lt hj
  have hD5 := (hD2.below b24).keep A.keep (fun j hj hj' => by have := hfp2 j hj; have := hlt1 j hj'; omega)
  have hbB := A.belowB hT4.le hT4.fd
  exact ⟨d2, sb2, lv2, _, V, t, rfl, ⟨hD5, hT4.R.keepD hT4.D A.keep, T.rel.room cap2 sp2, fun j hj => Nat.le_trans T1.le (hfp2 j hj), T.fr, Nat.le_trans hT4.le hbB.size⟩, Nat.le_succ _, (hb1B.trans (below_low (bt hb2 b24) T1.le)).trans hbB⟩
set_option linter.unusedSimpArgs false in
set_option maxRecDepth 100000 in
set_option maxHeartbeats 2000000 in
theorem step_hurt {B0 : Nat} {w : World} {d sb : Nat} {lv : Value} {s : DS} {r : Nat} {V : RV} {t : RS} (T : Two B0 w d sb lv s r V t) (i : Int) (q : Option Addr) (m c : Nat) (sh : Bool) : Calls Try.prog 10 #[.pointer (some ⟨d, 0, none⟩), .pointer (some ⟨r, 0, none⟩), opV 5 i q m c sh] w (StepOk B0 s r w) := by
  have hb1 := below_alloc w (.cells #[.int .i64 5, .int .i64 i, .slice q m c, .bool sh] 33)
  have g1 := Blk.new' w 33 #[.int .i64 5, .int .i64 i, .slice q m c, .bool sh]
  have T1 := T.below hb1
  have hb1B := below_low hb1 T.le
  have k0 := g1.cell' (i := 0) (v := .int .i64 5) rfl
  have k1 := g1.cell' (i := 1) (v := .int .i64 i) rfl
  have hc := hurt_any T1.D i
  have hg1 := g1.lt
  unfold opV
  go_enter Try.func10, Try.ntmps10
  go_wp2
  refine wp_region_noPanic ?_
  refine wp_region_held_drew (S := fun X => X.cell? ⟨w.heap.size, 1, none⟩ = some (.int .i64 i)) (by kernel_rfl) k1 (fun hHeld => ?_)
  refine wpAnyH_take (i := 0) (v := ?_) rfl (by kernel_rfl) (by kernel_rfl) (by kernel_rfl) (fun _ _ _ h => h) (Or.inl ⟨by rfl, ?_⟩) hHeld ?_
  rotate_left
  · intro w' hSw; try dsimp only at hSw
    go_simp; try (with_reducible rfl)
  try simp only [Act.put, List.getElem_toArray, List.getElem_cons_succ, List.getElem_cons_zero, List.setIfInBounds_toArray, List.set_cons_zero, List.set_cons_succ]
  refine wpAnyH_take (i := 1) (v := ?_) rfl (by kernel_rfl) (by kernel_rfl) (by kernel_rfl) (fun _ _ _ h => h) (Or.inl ⟨by rfl, ?_⟩) hHeld ?_
  rotate_left
  · intro w' hSw; try dsimp only at hSw
    go_simp; try (with_reducible rfl)
  try simp only [Act.put, List.getElem_toArray, List.getElem_cons_succ, List.getElem_cons_zero, List.setIfInBounds_toArray, List.set_cons_zero, List.set_cons_succ]
  refine wpAnyH_take (i := 2) (v := ?_) rfl (by kernel_rfl) (by kernel_rfl) (by kernel_rfl) (fun _ _ _ h => h) (Or.inl ⟨by rfl, ?_⟩) hHeld ?_
  rotate_left
  · intro w' hSw; try dsimp only at hSw
    go_simp; try (with_reducible rfl)
  try simp only [Act.put, List.getElem_toArray, List.getElem_cons_succ, List.getElem_cons_zero, List.setIfInBounds_toArray, List.set_cons_zero, List.set_cons_succ]
  refine wpAnyH_take (i := 3) (v := ?_) rfl (by kernel_rfl) (by kernel_rfl) (by kernel_rfl) (fun _ _ _ h => h) (Or.inl ⟨by rfl, ?_⟩) hHeld ?_
  rotate_left
  · intro w' hSw; try dsimp only at hSw
    go_simp; try (with_reducible rfl)
  try simp only [Act.put, List.getElem_toArray, List.getElem_cons_succ, List.getElem_cons_zero, List.setIfInBounds_toArray, List.set_cons_zero, List.set_cons_succ]
  refine wpAnyH_take (i := 5) (v := ?_) rfl (by kernel_rfl) (by kernel_rfl) (by kernel_rfl) (fun _ _ _ h => h) (Or.inl ⟨by rfl, ?_⟩) hHeld ?_
  rotate_left
  · intro w' hSw; try dsimp only at hSw
    go_simp; try (with_reducible rfl)
  try simp only [Act.put, List.getElem_toArray, List.getElem_cons_succ, List.getElem_cons_zero, List.setIfInBounds_toArray, List.set_cons_zero, List.set_cons_succ]
  refine wpAnyH_take (i := 6) (v := ?_) rfl (by kernel_rfl) (by kernel_rfl) (by kernel_rfl) (fun _ _ _ h => h) (Or.inl ⟨by rfl, ?_⟩) hHeld ?_
  rotate_left
  · intro w' hSw; try dsimp only at hSw
    go_simp; try (with_reducible rfl)
  try simp only [Act.put, List.getElem_toArray, List.getElem_cons_succ, List.getElem_cons_zero, List.setIfInBounds_toArray, List.set_cons_zero, List.set_cons_succ]
  refine wpAnyH_take (i := 7) (v := ?_) rfl (by kernel_rfl) (by kernel_rfl) (by kernel_rfl) (fun _ _ _ h => h) (Or.inl ⟨by rfl, ?_⟩) hHeld ?_
  rotate_left
  · intro w' hSw; try dsimp only at hSw
    go_simp; try (with_reducible rfl)
  try simp only [Act.put, List.getElem_toArray, List.getElem_cons_succ, List.getElem_cons_zero, List.setIfInBounds_toArray, List.set_cons_zero, List.set_cons_succ]
  refine wpAnyH_ready (rs := [4]) (by kernel_rfl) (by simp) ?_
  refine AllReadyH.cons rfl (fun K hK => ?_) AllReadyH.nil
  go_simp
  refine (hurt_any (T1.below ((Below.refl _ _).drew)).D i).mono ?_
  rintro e w2 ⟨rfl, A⟩
  have k2 := (World.cell?_of_block (a := ⟨w.heap.size, 1, none⟩) (A.keep.block w.heap.size hg1 (fun e => blk_fpD T1.D g1 (by decide) (by decide) (by decide) e))).trans k1
  have hrc := rhurt_any ((T1.below ((Below.refl _ _).drew)).disk A).1 i
  rw [(T.rel.hurt i).1] at hrc
  have HH := (T.rel.hurt i).2
  generalize hurtE s.secs.length i = E at *
  refine hK.out _ _ k2 (fun hHeld => ?_)
  clear hK K
  try simp only [Act.put, List.getElem_toArray, List.getElem_cons_succ, List.getElem_cons_zero, List.setIfInBounds_toArray, List.set_cons_zero, List.set_cons_succ]
  refine wpAnyH_ready (rs := [8]) (by kernel_rfl) (by simp) ?_
  refine AllReadyH.cons rfl (fun K hK => ?_) AllReadyH.nil
  go_simp
  refine hrc.mono ?_
  rintro e w3 ⟨rfl, C⟩
  have TB := (T1.below ((Below.refl _ _).drew)).both A C HH
  have k3 := (World.cell?_of_block (a := ⟨w.heap.size, 1, none⟩) (C.keep.block w.heap.size (Nat.lt_of_lt_of_le hg1 A.keep.size) (fun e => blk_fpR T1.R g1 (by decide) (by decide) (by decide) (by decide) e))).trans k2
  refine hK.out _ _ k3 (fun hHeld => ?_)
  clear hK K
  try simp only [Act.put, List.getElem_toArray, List.getElem_cons_succ, List.getElem_cons_zero, List.setIfInBounds_toArray, List.set_cons_zero, List.set_cons_succ]
  refine wpAnyH_take (i := 9) (v := ?_) rfl (by kernel_rfl) (by kernel_rfl) (by kernel_rfl) (fun _ _ _ h => h) (Or.inl ⟨by rfl, ?_⟩) hHeld ?_
  rotate_left
  · intro w' hSw; try dsimp only at hSw
    go_simp; try (with_reducible rfl)
  try simp only [Act.put, List.getElem_toArray, List.getElem_cons_succ, List.getElem_cons_zero, List.setIfInBounds_toArray, List.set_cons_zero, List.set_cons_succ]
  refine wpAnyH_take (i := 10) (v := ?_) rfl (by kernel_rfl) (by kernel_rfl) (by kernel_rfl) (fun _ _ _ h => h) (Or.inl ⟨by rfl, ?_⟩) hHeld ?_
  rotate_left
  · intro w' hSw; try dsimp only at hSw
    go_simp; try (with_reducible rfl)
  try simp only [Act.put, List.getElem_toArray, List.getElem_cons_succ, List.getElem_cons_zero, List.setIfInBounds_toArray, List.set_cons_zero, List.set_cons_succ]
  refine wpAnyH_take (i := 11) (v := ?_) rfl (by kernel_rfl) (by kernel_rfl) (by kernel_rfl) (fun _ _ _ h => h) (Or.inl ⟨by rfl, ?_⟩) hHeld ?_
  rotate_left
  · intro w' hSw; try dsimp only at hSw
    go_simp; try (with_reducible rfl)
  try simp only [Act.put, List.getElem_toArray, List.getElem_cons_succ, List.getElem_cons_zero, List.setIfInBounds_toArray, List.set_cons_zero, List.set_cons_succ]
  refine wpAnyH_done (by kernel_rfl) ?_ _
  refine NoPanic.normal ?_
  go_wp2
  go_ret2
  exact ⟨_, _, _, _, _, _, rfl, TB.1, by show (hurtS s i).writes ≤ _; unfold hurtS; split <;> exact Nat.le_succ _, hb1B.drew.trans TB.2⟩
set_option linter.unusedSimpArgs false in
set_option maxRecDepth 100000 in
set_option maxHeartbeats 2000000 in
theorem step_write {B0 : Nat} {w : World} {d sb : Nat} {lv : Value} {s : DS} {r : Nat} {V : RV} {t : RS} (T : Two B0 w d sb lv s r V t) (i : Int) (q : Option Addr) (m c : Nat) (sh : Bool) (hw : s.writes < 1000) {xs : List Nat} (hx : In w q m c xs) (hql : ∀ a, q = some a → 0 < m → a.block < B0) : Calls Try.prog 10 #[.pointer (some ⟨d, 0, none⟩), .pointer (some ⟨r, 0, none⟩), opV 1 i q m c sh] w (StepOk B0 s r w) := by
  have hb1 := below_alloc w (.cells #[.int .i64 1, .int .i64 i, .slice q m c, .bool sh] 33)
  have g1 := Blk.new' w 33 #[.int .i64 1, .int .i64 i, .slice q m c, .bool sh]
  have T1 := T.below hb1
  have hb1B := below_low hb1 T.le
  have k0 := g1.cell' (i := 0) (v := .int .i64 1) rfl
  have k1 := g1.cell' (i := 1) (v := .int .i64 i) rfl
  have hw1 : s.writes < 1024 := by omega
  have hx1 := hx.below hb1
  have hg1 := g1.lt
  unfold opV
  go_enter Try.func10, Try.ntmps10
  go_wp2
  clear k0 k1
  change Blk _ w.heap.size 33 [.int .i64 1, .int .i64 i, .slice q m c, .bool sh] at g1
  generalize w.alloc (.cells #[.int .i64 1, .int .i64 i, .slice q m c, .bool sh] 33) = w1 at *
  refine wp_region_noPanic ?_
  refine wp_region_held_drew (S := fun X => Blk X w.heap.size 33 [.int .i64 1, .int .i64 i, .slice q m c, .bool sh]) (by kernel_rfl) g1 (fun hHeld => ?_)
  refine wpAnyH_take (i := 0) (v := ?_) rfl (by kernel_rfl) (by kernel_rfl) (by kernel_rfl) (fun _ _ _ h => h) (Or.inl ⟨by rfl, ?_⟩) hHeld ?_
  rotate_left
  · intro w' hSw; try dsimp only at hSw
    go_simp; try (with_reducible rfl)
  try simp only [Act.put, List.getElem_toArray, List.getElem_cons_succ, List.getElem_cons_zero, List.setIfInBounds_toArray, List.set_cons_zero, List.set_cons_succ]
  refine wpAnyH_take (i := 1) (v := ?_) rfl (by kernel_rfl) (by kernel_rfl) (by kernel_rfl) (fun _ _ _ h => h) (Or.inl ⟨by rfl, ?_⟩) hHeld ?_
  rotate_left
  · intro w' hSw; try dsimp only at hSw
    go_simp; try (with_reducible rfl)
  try simp only [Act.put, List.getElem_toArray, List.getElem_cons_succ, List.getElem_cons_zero, List.setIfInBounds_toArray, List.set_cons_zero, List.set_cons_succ]
  refine wpAnyH_take (i := 2) (v := ?_) rfl (by kernel_rfl) (by kernel_rfl) (by kernel_rfl) (fun _ _ _ h => h) (Or.inl ⟨by rfl, ?_⟩) hHeld ?_
  rotate_left
  · intro w' hSw; try dsimp only at hSw
    go_simp; try (with_reducible rfl)
  try simp only [Act.put, List.getElem_toArray, List.getElem_cons_succ, List.getElem_cons_zero, List.setIfInBounds_toArray, List.set_cons_zero, List.set_cons_succ]
  refine wpAnyH_take (i := 3) (v := ?_) rfl (by kernel_rfl) (by kernel_rfl) (by kernel_rfl) (fun _ _ _ h => h) (Or.inl ⟨by rfl, ?_⟩) hHeld ?_
  rotate_left
  · intro w' hSw; try dsimp only at hSw
    have l0 := hSw.cell' (i := 0) rfl
    have l1 := hSw.cell' (i := 1) rfl
    have l2 := hSw.cell' (i := 2) rfl
    have l3 := hSw.cell' (i := 3) rfl
    go_simp; try (with_reducible rfl)
  try simp only [Act.put, List.getElem_toArray, List.getElem_cons_succ, List.getElem_cons_zero, List.setIfInBounds_toArray, List.set_cons_zero, List.set_cons_succ]
  refine wpAnyH_take (i := 4) (v := ?_) rfl (by kernel_rfl) (by kernel_rfl) (by kernel_rfl) (fun _ _ _ h => h) (Or.inl ⟨by rfl, ?_⟩) hHeld ?_
  rotate_left
  · intro w' hSw; try dsimp only at hSw
    have l0 := hSw.cell' (i := 0) rfl
    have l1 := hSw.cell' (i := 1) rfl
    have l2 := hSw.cell' (i := 2) rfl
    have l3 := hSw.cell' (i := 3) rfl
    go_simp; try (with_reducible rfl)
  try simp only [Act.put, List.getElem_toArray, List.getElem_cons_succ, List.getElem_cons_zero, List.setIfInBounds_toArray, List.set_cons_zero, List.set_cons_succ]
  refine wpAnyH_take (i := 7) (v := ?_) rfl (by kernel_rfl) (by kernel_rfl) (by kernel_rfl) (fun _ _ _ h => h) (Or.inl ⟨by rfl, ?_⟩) hHeld ?_
  rotate_left
  · intro w' hSw; try dsimp only at hSw
    go_simp; try (with_reducible rfl)
  try simp only [Act.put, List.getElem_toArray, List.getElem_cons_succ, List.getElem_cons_zero, List.setIfInBounds_toArray, List.set_cons_zero, List.set_cons_succ]
  refine wpAnyH_take (i := 8) (v := ?_) rfl (by kernel_rfl) (by kernel_rfl) (by kernel_rfl) (fun _ _ _ h => h) (Or.inl ⟨by rfl, ?_⟩) hHeld ?_
  rotate_left
  · intro w' hSw; try dsimp only at hSw
    go_simp; try (with_reducible rfl)
  try simp only [Act.put, List.getElem_toArray, List.getElem_cons_succ, List.getElem_cons_zero, List.setIfInBounds_toArray, List.set_cons_zero, List.set_cons_succ]
  refine wpAnyH_take (i := 9) (v := ?_) rfl (by kernel_rfl) (by kernel_rfl) (by kernel_rfl) (fun _ _ _ h => h) (Or.inl ⟨by rfl, ?_⟩) hHeld ?_
  rotate_left
  · intro w' hSw; try dsimp only at hSw
    have l0 := hSw.cell' (i := 0) rfl
    have l1 := hSw.cell' (i := 1) rfl
    have l2 := hSw.cell' (i := 2) rfl
    have l3 := hSw.cell' (i := 3) rfl
    go_simp; try (with_reducible rfl)
  try simp only [Act.put, List.getElem_toArray, List.getElem_cons_succ, List.getElem_cons_zero, List.setIfInBounds_toArray, List.set_cons_zero, List.set_cons_succ]
  refine wpAnyH_take (i := 10) (v := ?_) rfl (by kernel_rfl) (by kernel_rfl) (by kernel_rfl) (fun _ _ _ h => h) (Or.inl ⟨by rfl, ?_⟩) hHeld ?_
  rotate_left
  · intro w' hSw; try dsimp only at hSw
    have l0 := hSw.cell' (i := 0) rfl
    have l1 := hSw.cell' (i := 1) rfl
    have l2 := hSw.cell' (i := 2) rfl
    have l3 := hSw.cell' (i := 3) rfl
    go_simp; try (with_reducible rfl)
  try simp only [Act.put, List.getElem_toArray, List.getElem_cons_succ, List.getElem_cons_zero, List.setIfInBounds_toArray, List.set_cons_zero, List.set_cons_succ]
  refine wpAnyH_ready (rs := [5]) (by kernel_rfl) (by simp) ?_
  refine AllReadyH.cons rfl (fun K hK => ?_) AllReadyH.nil
  go_simp
  refine (full_any 1 i q m c sh xs _ (hx1.below ((Below.refl _ _).drew))).mono ?_
  rintro e w2 ⟨p2, n2, c2, rfl, hin2, hb2', hp2⟩
  have hb2 : Below w1.heap.size w1 w2 := bt ((Below.refl _ w1).drew) hb2'
  have g2 := g1.kept hb2
  have T2 := T1.below hb2
  have hwr := write_any T2.D i p2 n2 c2 _ hin2 hw1
  refine hK.out _ _ g2 (fun hHeld => ?_)
  clear hK K
  try simp only [Act.put, List.getElem_toArray, List.getElem_cons_succ, List.getElem_cons_zero, List.setIfInBounds_toArray, List.set_cons_zero, List.set_cons_succ]
  refine wpAnyH_ready (rs := [6]) (by kernel_rfl) (by simp) ?_
  refine AllReadyH.cons rfl (fun K hK => ?_) AllReadyH.nil
  go_simp
  refine hwr.mono ?_
  rintro e w3 ⟨rfl, lv3, A⟩
  obtain ⟨R3, hb3, _⟩ := T2.disk A
  have g3 : Blk w3 w.heap.size 33 [.int .i64 1, .int .i64 i, .slice q m c, .bool sh] := g2.same (A.keep.block w.heap.size g2.lt (fun e => blk_fpD T2.D g2 (by decide) (by decide) (by decide) e))
  have hx3 : In w3 q m c xs := by { rcases Nat.eq_zero_or_pos m with h0 | h0; exact (hx1.below hb2).none0 h0; exact (hx1.below hb2).after A (fun a ha e => by have := hql a ha h0; have := T.fd _ e; omega) }
  refine hK.out _ _ g3 (fun hHeld => ?_)
  clear hK K
  try simp only [Act.put, List.getElem_toArray, List.getElem_cons_succ, List.getElem_cons_zero, List.setIfInBounds_toArray, List.set_cons_zero, List.set_cons_succ]
  refine wpAnyH_ready (rs := [11]) (by kernel_rfl) (by simp) ?_
  refine AllReadyH.cons rfl (fun K hK => ?_) AllReadyH.nil
  go_simp
  refine (full_any 1 i q m c sh xs _ hx3).mono ?_
  rintro e w4 ⟨p4, n4, c4, rfl, hin4, hb4, hp4⟩
  have g4 := g3.kept hb4
  have R4 := R3.below hb4
  have hn4 : n4 = n2 := by rw [← hin4.len, hin2.len]
  have hn2l : (fullL xs sh).length = n2 := hin2.len
  have hrw : Calls Try.prog 22 #[.pointer (some ⟨r, 0, none⟩), .int .i64 i, .slice p4 n4 c4] w4 fun e w' => e = .returned (.int .i64 (rwE t i n4)) ∧ ∃ V', RAfter w4 w' r V V' (rwS t i (fullL xs sh)) := by
    by_cases h256 : n4 = 256
    · have hm0 : 0 < m := by { rcases Nat.eq_zero_or_pos m with h0 | h0; (have e0 : xs = [] := List.eq_nil_of_length_eq_zero (by rw [hx.len]; exact h0); rw [e0] at hn2l; simp [fullL] at hn2l; omega); exact h0 }
      exact rwrite_any R4 i p4 n4 c4 _ hin4 (fun a ha e => by { rcases hp4 with h | h; (have := hql a (by rw [← h]; exact ha) hm0; have := T.fr _ e; omega); (have := h a ha; have := R3.lt e; omega) }) (by have := T.rel.w; omega) (by rw [T.rel.log, wroteOf, List.length_map, T.D.ll]; omega)
    · exact rwrite_short R4 i p4 n4 c4 _ hin4 h256
  obtain ⟨ew, HR⟩ := T.rel.write T.R.lc i (fullL xs sh)
  rw [hn4, ← hn2l, ew, hn2l] at hrw
  refine hK.out _ _ g4 (fun hHeld => ?_)
  clear hK K
  try simp only [Act.put, List.getElem_toArray, List.getElem_cons_succ, List.getElem_cons_zero, List.setIfInBounds_toArray, List.set_cons_zero, List.set_cons_succ]
  refine wpAnyH_ready (rs := [12]) (by kernel_rfl) (by simp) ?_
  refine AllReadyH.cons rfl (fun K hK => ?_) AllReadyH.nil
  go_simp
  refine hrw.mono ?_
  rintro e w5 ⟨rfl, V5, C⟩
  have g5 : Blk w5 w.heap.size 33 [.int .i64 1, .int .i64 i, .slice q m c, .bool sh] := g4.same (C.keep.block w.heap.size g4.lt (fun e => blk_fpR R4 g4 (by decide) (by decide) (by decide) (by decide) e))
  have TB := T2.both (A.trans (DAfter.refl A.disk)) (C.drop hb4) HR
  refine hK.out _ _ g5 (fun hHeld => ?_)
  clear hK K
  try simp only [Act.put, List.getElem_toArray, List.getElem_cons_succ, List.getElem_cons_zero, List.setIfInBounds_toArray, List.set_cons_zero, List.set_cons_succ]
  refine wpAnyH_take (i := 13) (v := ?_) rfl (by kernel_rfl) (by kernel_rfl) (by kernel_rfl) (fun _ _ _ h => h) (Or.inl ⟨by rfl, ?_⟩) hHeld ?_
  rotate_left
  · intro w' hSw; try dsimp only at hSw
    go_simp; try (with_reducible rfl)
  try simp only [Act.put, List.getElem_toArray, List.getElem_cons_succ, List.getElem_cons_zero, List.setIfInBounds_toArray, List.set_cons_zero, List.set_cons_succ]
  refine wpAnyH_take (i := 14) (v := ?_) rfl (by kernel_rfl) (by kernel_rfl) (by kernel_rfl) (fun _ _ _ h => h) (Or.inl ⟨by rfl, ?_⟩) hHeld ?_
  rotate_left
  · intro w' hSw; try dsimp only at hSw
    go_simp; try (with_reducible rfl)
  try simp only [Act.put, List.getElem_toArray, List.getElem_cons_succ, List.getElem_cons_zero, List.setIfInBounds_toArray, List.set_cons_zero, List.set_cons_succ]
  refine wpAnyH_take (i := 15) (v := ?_) rfl (by kernel_rfl) (by kernel_rfl) (by kernel_rfl) (fun _ _ _ h => h) (Or.inl ⟨by rfl, ?_⟩) hHeld ?_
  rotate_left
  · intro w' hSw; try dsimp only at hSw
    go_simp; try (with_reducible rfl)
  try simp only [Act.put, List.getElem_toArray, List.getElem_cons_succ, List.getElem_cons_zero, List.setIfInBounds_toArray, List.set_cons_zero, List.set_cons_succ]
  refine wpAnyH_done (by kernel_rfl) ?_ _
  refine NoPanic.normal ?_
  go_wp2
  go_ret2
  exact ⟨_, _, _, _, _, _, rfl, TB.1, by show (writeS s i _).writes ≤ _; unfold writeS; split; exact Nat.le_succ _; split; exact Nat.le_succ _; split; exact Nat.le_succ _; exact Nat.le_refl _, (hb1B.trans (below_low hb2 T1.le)).trans TB.2⟩
theorem step_any {B0 : Nat} {w : World} {d sb : Nat} {lv : Value} {s : DS} {r : Nat} {V : RV} {t : RS} (T : Two B0 w d sb lv s r V t) (k i : Int) (q : Option Addr) (m c : Nat) (sh : Bool) (hw : s.writes < 1000) (hi : -9223372036854775808 ≤ i ∧ i ≤ 9223372036854775807) {xs : List Nat} (hx : In w q m c xs) (hql : ∀ a, q = some a → 0 < m → a.block < B0) : Calls Try.prog 10 #[.pointer (some ⟨d, 0, none⟩), .pointer (some ⟨r, 0, none⟩), opV k i q m c sh] w (StepOk B0 s r w) := by
  by_cases h0 : k = 0
  · subst h0; exact step_read T i q m c sh
  by_cases h1 : k = 1
  · subst h1; exact step_write T i q m c sh hw hx hql
  by_cases h2 : k = 2
  · subst h2; exact step_flush T i q m c sh
  by_cases h3 : k = 3
  · subst h3; exact step_cut T i q m c sh hi
  by_cases h4 : k = 4
  · subst h4; exact step_restart T i q m c sh
  by_cases h5 : k = 5
  · subst h5; exact step_hurt T i q m c sh
  by_cases h6 : k = 6
  · subst h6; exact step_clone T i q m c sh hw
  exact step_other T k i q m c sh h0 h1 h2 h3 h4 h5 h6
end Go.Proofs.Ytbnnekpglnnneaa
