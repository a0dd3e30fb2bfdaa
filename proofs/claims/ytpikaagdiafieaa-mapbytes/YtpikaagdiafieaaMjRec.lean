/-
  Records: which may be, and what a state learns of one.
-/
import Derived.Test.YtpikaagdiafieaaMjNew
namespace Go.Proofs.Ytpikaagdiafieaa
open Go.RowKit
def eR (l : List MR) (i : Nat) : MR := l.getD i ⟨0, 0, 0⟩
/-- A slice of records that lies in a world. -/
structure InR (w : World) (p : Option Addr) (n c : Nat) (l : List MR) : Prop where
  len : l.length = n
  cap : n ≤ c
  max : c ≤ maxLen
  room : n ≤ 140737488355328
  at' : 0 < n → ∃ b o, p = some ⟨b, o, none⟩ ∧ b < w.heap.size ∧ ∀ i, i < n → w.cell? ⟨b, o + i * 3, none⟩ = some (.int .i64 (eR l i).kind) ∧ w.cell? ⟨b, o + i * 3 + 1, none⟩ = some (.int .i64 (eR l i).block) ∧ w.cell? ⟨b, o + i * 3 + 2, none⟩ = some (.int .i64 (eR l i).value)
  nil : p = none → c = 0
theorem InR.below {w w' p n c l} (h : InR w p n c l) (hb : Below w.heap.size w w') : InR w' p n c l :=
  ⟨h.len, h.cap, h.max, h.room, fun h0 => by
    obtain ⟨b, o, hp, hlt, hc⟩ := h.at' h0
    refine ⟨b, o, hp, Nat.lt_of_lt_of_le hlt hb.size, fun i hi => ?_⟩
    obtain ⟨h1, h2, h3⟩ := hc i hi
    exact ⟨(hb.cell (p := ⟨b, o + i * 3, none⟩) hlt).trans h1, (hb.cell (p := ⟨b, o + i * 3 + 1, none⟩) hlt).trans h2, (hb.cell (p := ⟨b, o + i * 3 + 2, none⟩) hlt).trans h3⟩, h.nil⟩
theorem InR.empty (w : World) : InR w none 0 0 [] := ⟨rfl, Nat.le_refl _, Nat.zero_le _, Nat.zero_le _, fun h => by omega, fun _ => rfl⟩
abbrev MR.val (r : MR) : Value := .agg #[.int .i64 r.kind, .int .i64 r.block, .int .i64 r.value]
theorem eR_mem {l : List MR} {k : Nat} (h : k < l.length) : eR l k ∈ l := by simp [eR, h]
theorem takeR_succ (l : List MR) (k : Nat) (h : k < l.length) : l.take (k + 1) = l.take k ++ [eR l k] := by
  rw [List.take_succ_eq_append_getElem h]; simp [eR, h]
theorem eR_all {l : List MR} {f : MR → Bool} : l.all f = true ↔ ∀ j, j < l.length → f (eR l j) = true := by
  rw [List.all_eq_true]
  constructor
  · intro h j hj; exact h _ (eR_mem hj)
  · intro h x hx
    obtain ⟨i, hi, rfl⟩ := List.mem_iff_getElem.1 hx
    have := h i hi
    simpa [eR, hi] using this
theorem allR_not {l : List MR} {f : MR → Bool} {k : Nat} (hk : k < l.length) (h : f (eR l k) = false) : l.all f = false := by
  cases hq : l.all f with
  | false => rfl
  | true => rw [eR_all.1 hq k hk] at h; cases h
theorem recordMayBe_any (r : MR) (w : World) : Calls Try.prog 56 #[r.val] w fun e w' => e = .returned (.bool (okMR r)) ∧ Below w.heap.size w w' := by
  obtain ⟨k, b, v⟩ := r
  dsimp only [MR.val]
  have hbl := below_alloc w (.cells #[.int .i64 k, .int .i64 b, .int .i64 v] 65)
  have bx := Blk.new' w 65 #[.int .i64 k, .int .i64 b, .int .i64 v]
  have x0 := bx.cell' (i := 0) rfl
  have x1 := bx.cell' (i := 1) rfl
  have x2 := bx.cell' (i := 2) rfl
  clear bx
  by_cases h1 : k = 1
  · subst h1
    by_cases hb : 0 ≤ b ∧ b ≤ 255
    · have E : Hid (okMR ⟨1, b, v⟩ = (v == 0)) := by
        show _ = _
        unfold okMR
        simp [hb.1, hb.2]
        cases h : (v == 0) <;> simp_all
      go_enter Try.func56, Try.ntmps56
      go_wp2_with (go_at_call 44; refine (within_yes _ hb.1 hb.2).mono ?_; rintro e w' ⟨rfl, hw'⟩; have hw2 := hw'.symm; subst hw2; clear hw')
      go_ret
      rw [E.out]
      exact ⟨rfl, hbl⟩
    · have E : Hid (okMR ⟨1, b, v⟩ = false) := by
        show _ = _
        unfold okMR
        simp; intro h1 h2; omega
      go_enter Try.func56, Try.ntmps56
      go_wp2_with (go_at_call 44; refine (within_no _ hb).mono ?_; rintro e w' ⟨rfl, hw'⟩; have hw2 := hw'.symm; subst hw2; clear hw')
      go_ret
      rw [E.out]
      exact ⟨rfl, hbl⟩
  · have n1 : (k == 1) = false := by simpa using h1
    by_cases h2 : k = 2
    · subst h2
      by_cases hb : 0 ≤ b ∧ b ≤ 255
      · have E : Hid (okMR ⟨2, b, v⟩ = (decide (0 ≤ v) && decide (v ≤ 16777215))) := by
          show _ = _
          unfold okMR
          simp [hb.1, hb.2, okWear]
        clear h1
        go_enter Try.func56, Try.ntmps56
        go_wp2_with (first
          | (go_at_call 44; refine (within_yes _ hb.1 hb.2).mono ?_; rintro e w' ⟨rfl, hw'⟩; have hw2 := hw'.symm; subst hw2; clear hw')
          | (go_at_call 53; refine (withinL_any v 0 16777215 _).mono ?_; rintro e w' ⟨rfl, hw'⟩; have hw2 := hw'.symm; subst hw2; clear hw'))
        go_ret
        rw [E.out]
        exact ⟨rfl, hbl⟩
      · have E : Hid (okMR ⟨2, b, v⟩ = false) := by
          show _ = _
          unfold okMR
          simp; intro h1 h2; omega
        clear h1
        go_enter Try.func56, Try.ntmps56
        go_wp2_with (go_at_call 44; refine (within_no _ hb).mono ?_; rintro e w' ⟨rfl, hw'⟩; have hw2 := hw'.symm; subst hw2; clear hw')
        go_ret
        rw [E.out]
        exact ⟨rfl, hbl⟩
    · have n2 : (k == 2) = false := by simpa using h2
      by_cases h3 : k = 3
      · subst h3
        by_cases hb : b = 0
        · subst hb
          have E : Hid (okMR ⟨3, 0, v⟩ = (decide (0 ≤ v) && decide (v ≤ 1152921504606846976))) := by
            show _ = _
            unfold okMR
            simp
          clear h1 h2
          go_enter Try.func56, Try.ntmps56
          go_wp2_with (go_at_call 53; refine (withinL_any v 0 1152921504606846976 _).mono ?_; rintro e w' ⟨rfl, hw'⟩; have hw2 := hw'.symm; subst hw2; clear hw')
          go_ret
          rw [E.out]
          exact ⟨rfl, hbl⟩
        · have nb : (b == 0) = false := by simpa using hb
          have E : Hid (okMR ⟨3, b, v⟩ = false) := by
            show _ = _
            unfold okMR
            simp [hb]
          clear h1 h2 hb
          go_enter Try.func56, Try.ntmps56
          go_wp2
          go_ret
          rw [E.out]
          exact ⟨rfl, hbl⟩
      · have n3 : (k == 3) = false := by simpa using h3
        have E : Hid (okMR ⟨k, b, v⟩ = false) := by
          show _ = _
          unfold okMR
          simp [h1, h2, h3]
        clear h1 h2 h3
        go_enter Try.func56, Try.ntmps56
        go_wp2
        go_ret
        rw [E.out]
        exact ⟨rfl, hbl⟩
theorem isOf_any (V : SV) (s : MS) (r : MR) (w : World) : Calls Try.prog 57 #[V.val s, r.val] w fun e w' => e = .returned (.bool (decide (r.block < (V.n : Int)))) ∧ Below w.heap.size w w' := by
  obtain ⟨k, b, v⟩ := r
  dsimp only [MR.val, SV.val]
  have hbl := bt (below_alloc w (.cells #[.slice V.p V.n V.c, .slice V.q V.m V.d, .int .i64 s.seq] 25)) (below_alloc _ (.cells #[.int .i64 k, .int .i64 b, .int .i64 v] 65))
  have bx := Blk.new' (w.alloc (.cells #[.slice V.p V.n V.c, .slice V.q V.m V.d, .int .i64 s.seq] 25)) 65 #[.int .i64 k, .int .i64 b, .int .i64 v]
  have by' := (Blk.new' w 25 #[.slice V.p V.n V.c, .slice V.q V.m V.d, .int .i64 s.seq]).alloc (.cells #[.int .i64 k, .int .i64 b, .int .i64 v] 65)
  rw [World.size_alloc] at bx
  have x1 := bx.cell' (i := 1) rfl
  have x2 := by'.cell' (i := 0) rfl
  go_enter Try.func57, Try.ntmps57
  go_wp2
  go_ret
  exact ⟨rfl, hbl⟩
set_option maxHeartbeats 1000000 in
theorem learnRecord_any (B g : Nat) (V : SV) (s : MS) (r : MR) (w : World) (h : BoxS B w g V s) (hV : V.m = V.n) (hB : B ≤ w.heap.size) (h0 : 0 ≤ r.block) (hr : r.block < (V.n : Int)) :
    Calls Try.prog 58 #[.pointer (some ⟨g, 0, none⟩), r.val] w fun e w' => e = .returned (.tuple #[]) ∧ BoxS B w' g V (learnR s r) ∧ Below B w w' := by
  obtain ⟨k, bI, v⟩ := r
  dsimp only [MR.val] at *
  obtain ⟨b, rfl⟩ : ∃ b : Nat, bI = (b : Int) := ⟨bI.toNat, by omega⟩
  have hbl := below_alloc w (.cells #[.int .i64 k, .int .i64 (b : Int), .int .i64 v] 65)
  have bx := Blk.new' w 65 #[.int .i64 k, .int .i64 (b : Int), .int .i64 v]
  have x0 := bx.cell' (i := 0) rfl
  have x1 := bx.cell' (i := 1) rfl
  have x2 := bx.cell' (i := 2) rfl
  have hx := h.next hbl
  have hbl' := hbl.mono hB
  obtain ⟨p, n0, c, q, n, d⟩ := V
  dsimp only at hV hr
  subst hV
  clear bx h
  have HL : Hid (s.bad.length = n) := hx.own.inS.b.len
  have hn : n ≤ 1125899906842624 := hx.own.hn
  by_cases h1 : k = 1
  · subst h1
    have E : Hid (learnR s ⟨1, (b : Int), v⟩ = { s with bad := s.bad.set b true }) := by show _ = _; unfold learnR; simp
    obtain ⟨gp, rfl, hgp, hgpl⟩ := owns_at hx.own.b (by dsimp only; omega)
    have c0 := hx.box.cell' (i := 0) rfl
    have c1 := hx.own.b.cellAt b (by dsimp only; omega)
    rw [valsB_get _ _ (by have := HL.out; omega)] at c1
    have cf := hx.own.b.frozenAt b
    have hst := (hx.own.b.stored b (.bool true)).1
    rw [show (valsB s.bad).set b (.bool true) = valsB (s.bad.set b true) by simp [valsB, List.map_set]] at hst
    have hbx := hx.setBad rfl (Turned.setCell _ ⟨gp, b, none⟩ (.bool true)) hst
    have hb2 := (Turned.setCell _ ⟨gp, b, none⟩ (.bool true)).below hbl' hgp
    clear hst
    go_enter Try.func58, Try.ntmps58
    go_wp2
    go_region
    all_goals (try go_wp2)
    all_goals
      go_end0
      rw [E.out]
      exact ⟨rfl, hbx.drew, hb2.drew⟩
  · have n1 : (k == 1) = false := by simpa using h1
    by_cases h2 : k = 2
    · subst h2
      have E : Hid (learnR s ⟨2, (b : Int), v⟩ = { s with wear := s.wear.set b (max (eI s.wear b) v) }) := by show _ = _; unfold learnR; simp
      clear h1
      go_enter Try.func58, Try.ntmps58
      go_wp2_with (go_at_call 74; refine (learnWear_any B g _ s b v _ hx (by dsimp only; omega)).mono ?_; rintro e w2 ⟨rfl, hx2, hb2⟩)
      go_end0
      rw [E.out]
      exact ⟨rfl, hx2, hbl'.trans hb2⟩
    · have n2 : (k == 2) = false := by simpa using h2
      by_cases h3 : k = 3
      · subst h3
        have E : Hid (learnR s ⟨3, (b : Int), v⟩ = { s with seq := max s.seq v }) := by show _ = _; unfold learnR; simp
        clear h1 h2
        go_enter Try.func58, Try.ntmps58
        go_wp2_with (go_at_call 48; refine (learnSeq_any B g _ s v _ hx).mono ?_; rintro e w2 ⟨rfl, hx2, hb2⟩)
        go_end0
        rw [E.out]
        exact ⟨rfl, hx2, hbl'.trans hb2⟩
      · have n3 : (k == 3) = false := by simpa using h3
        have E : Hid (learnR s ⟨k, (b : Int), v⟩ = s) := by show _ = _; unfold learnR; simp [h1, h2, h3]
        clear h1 h2 h3
        go_enter Try.func58, Try.ntmps58
        go_wp2
        go_end0
        rw [E.out]
        exact ⟨rfl, hx, hbl'⟩
end Go.Proofs.Ytpikaagdiafieaa
