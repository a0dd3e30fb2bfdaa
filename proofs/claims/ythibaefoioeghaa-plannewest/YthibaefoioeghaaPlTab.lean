/-
  Tables: as plain data, and in memory; what the small functions answer.
-/
import Derived.Test.YthibaefoioeghaaPlBase
namespace Go.Proofs.Ythibaefoioeghaa
open Go.RowKit
/-- A random log. -/
structure LogS where
  phys : Int
  pages : List Int
/-- A table. -/
structure Tab where
  pages : Int
  logical : Int
  k : Int
  data : List Int
  have' : List Bool
  sp : Int
  sl : Int
  su : Int
  logs : List LogS
/-- Where a table's slices lie. -/
structure TabV where
  pd : Option Addr
  nd : Nat
  cd : Nat
  ph : Option Addr
  nh : Nat
  ch : Nat
  pl : Option Addr
  nl : Nat
  cl : Nat
/-- A slice of logs that lies in a world. -/
structure LogsIn (w : World) (p : Option Addr) (n c : Nat) (L : List LogS) : Prop where
  len : L.length = n
  cap : n ≤ c
  max : c ≤ maxLen
  room : n ≤ 140737488355328
  at' : 0 < n → ∃ b o, p = some ⟨b, o, none⟩ ∧ b < w.heap.size ∧ ∀ i l, L[i]? = some l → ∃ q m d, w.cell? ⟨b, o + i * 2, none⟩ = some (.int .i64 l.phys) ∧ w.cell? ⟨b, o + i * 2 + 1, none⟩ = some (.slice q m d) ∧ InI w q m d l.pages
  nil : p = none → c = 0
theorem LogsIn.below {w w' p n c L} (h : LogsIn w p n c L) (hb : Below w.heap.size w w') : LogsIn w' p n c L :=
  ⟨h.len, h.cap, h.max, h.room, fun h0 => by
    obtain ⟨b, o, hp, hlt, hc⟩ := h.at' h0
    have he : ∀ j, w'.cell? ⟨b, j, none⟩ = w.cell? ⟨b, j, none⟩ := fun j => hb.cell (p := ⟨b, j, none⟩) hlt
    exact ⟨b, o, hp, Nat.lt_of_lt_of_le hlt hb.size, fun i l hi => by
      obtain ⟨q, m, d, c0, c1, hin⟩ := hc i l hi
      exact ⟨q, m, d, (he _).trans c0, (he _).trans c1, hin.below hb⟩⟩, h.nil⟩
/-- A table that lies in a world. -/
structure TabIn (w : World) (V : TabV) (T : Tab) : Prop where
  data : InI w V.pd V.nd V.cd T.data
  have' : InB w V.ph V.nh V.ch T.have'
  logs : LogsIn w V.pl V.nl V.cl T.logs
theorem TabIn.below {w w' : World} {V : TabV} {T : Tab} (h : TabIn w V T) (hb : Below w.heap.size w w') : TabIn w' V T := ⟨h.data.below hb, h.have'.below hb, h.logs.below hb⟩
/-- A table as a row of cells. -/
def tabC (V : TabV) (T : Tab) : List Value := [.int .i64 T.pages, .int .i64 T.logical, .int .i64 T.k, .slice V.pd V.nd V.cd, .slice V.ph V.nh V.ch, .int .i64 T.sp, .int .i64 T.sl, .int .i64 T.su, .slice V.pl V.nl V.cl]
def tabA (V : TabV) (T : Tab) : Array Value := #[.int .i64 T.pages, .int .i64 T.logical, .int .i64 T.k, .slice V.pd V.nd V.cd, .slice V.ph V.nh V.ch, .int .i64 T.sp, .int .i64 T.sl, .int .i64 T.su, .slice V.pl V.nl V.cl]
theorem tabA_list (V : TabV) (T : Tab) : (tabA V T).toList = tabC V T := rfl
theorem wrapN (q : Nat) (h : q ≤ 100000000) : IntKind.i64.wrap (q : Int) = (q : Int) := by rw [IntKind.wrap_i64]; omega
theorem wrap64N (q : Nat) (h : q ≤ 100000000) : wrap64 (q : Int) = (q : Int) := (IntWalk.i64_left _).symm.trans (wrapN q h)
theorem run_quo {a b q : Int} (hb : b ≠ 0) (hq : IntKind.i64.wrap (a.tdiv b) = q) (w : World) : (Op.intDiv .quo .i64 a b).run Try.prog w = .ok (.int .i64 q) w := by
  simp [Op.intDiv, hb, hq]
theorem run_rem {a b q : Int} (hb : b ≠ 0) (hq : a.tmod b = q) (w : World) : (Op.intDiv .rem .i64 a b).run Try.prog w = .ok (.int .i64 q) w := by
  simp [Op.intDiv, hb, hq]
theorem quo_nat (k P : Nat) (hP : 0 < P) (hk : k ≤ 100000000) (w : World) : (Op.intDiv .quo .i64 (k : Int) (P : Int)).run Try.prog w = .ok (.int .i64 ((k / P : Nat) : Int)) w := by
  refine run_quo (by omega) ?_ w
  have := Nat.div_le_self k P
  rw [Int.tdiv_eq_ediv_of_nonneg (by omega), ← Int.natCast_ediv, IntKind.wrap_i64]
  generalize k / P = q at *
  omega
theorem rem_nat (k P : Nat) (hP : 0 < P) (w : World) : (Op.intDiv .rem .i64 (k : Int) (P : Int)).run Try.prog w = .ok (.int .i64 ((k % P : Nat) : Int)) w := by
  refine run_rem (by omega) ?_ w
  rw [Int.tmod_eq_emod_of_nonneg (by omega), ← Int.natCast_emod]
theorem within_any (a b c : Int) (w : World) : Calls Try.prog 66 #[.int .i64 a, .int .i64 b, .int .i64 c] w fun e w' => e = .returned (.bool (decide (b ≤ a) && decide (a ≤ c))) ∧ w' = w := by
  by_cases h1 : b ≤ a
  · by_cases h2 : a ≤ c
    · go_enter Try.func66, Try.ntmps66
      go_wp2
      go_ret
      exact ⟨ret_bool (by simp [h1, h2]), rfl⟩
    · go_enter Try.func66, Try.ntmps66
      go_wp2
      go_ret
      exact ⟨ret_bool (by simp [h2]), rfl⟩
  · have e : (decide (b ≤ a) && decide (a ≤ c)) = false := by rw [decide_eq_false h1]; rfl
    rw [e]
    go_enter Try.func66, Try.ntmps66
    go_wp2
    go_ret
    exact ⟨rfl, rfl⟩
theorem within_yes {a b c : Int} (w : World) (h1 : b ≤ a) (h2 : a ≤ c) : Calls Try.prog 66 #[.int .i64 a, .int .i64 b, .int .i64 c] w fun e w' => e = .returned (.bool true) ∧ w' = w := by
  have := within_any a b c w; rwa [show (decide (b ≤ a) && decide (a ≤ c)) = true from by simp [h1, h2]] at this
theorem within_no {a b c : Int} (w : World) (h : ¬ (b ≤ a ∧ a ≤ c)) : Calls Try.prog 66 #[.int .i64 a, .int .i64 b, .int .i64 c] w fun e w' => e = .returned (.bool false) ∧ w' = w := by
  have := within_any a b c w; rwa [show (decide (b ≤ a) && decide (a ≤ c)) = false from by simp; omega] at this
/-- Sizes that may be. -/
def okSz (p l k : Int) : Bool := decide (4 ≤ p ∧ p ≤ 32) && decide (1 ≤ l ∧ l ≤ 256) && decide (1 ≤ k ∧ k ≤ 8)
theorem okSz_iff {p l k : Int} : okSz p l k = true ↔ (4 ≤ p ∧ p ≤ 32) ∧ (1 ≤ l ∧ l ≤ 256) ∧ (1 ≤ k ∧ k ≤ 8) := by simp [okSz, and_assoc]
set_option maxRecDepth 100000 in
theorem sizes_any (p l k : Int) (w : World) : Calls Try.prog 47 #[.int .i64 p, .int .i64 l, .int .i64 k] w fun e w' => e = .returned (.bool (okSz p l k)) ∧ w' = w := by
  have hq : okSz p l k = ((decide (4 ≤ p) && decide (p ≤ 32)) && (decide (1 ≤ l) && decide (l ≤ 256)) && (decide (1 ≤ k) && decide (k ≤ 8))) := by simp [okSz]
  rw [hq]
  clear hq
  cases h1 : (decide (4 ≤ p) && decide (p ≤ 32)) with
  | false =>
    go_enter Try.func47, Try.ntmps47
    go_wp2_with (go_at_call 66; refine (within_any _ _ _ _).mono ?_; rintro e w' ⟨rfl, hw'⟩; have hw2 := hw'.symm; subst hw2; clear hw')
    go_ret
    exact ⟨rfl, rfl⟩
  | true =>
    cases h2 : (decide (1 ≤ l) && decide (l ≤ 256)) with
    | false =>
      go_enter Try.func47, Try.ntmps47
      go_wp2_with (go_at_call 66; refine (within_any _ _ _ _).mono ?_; rintro e w' ⟨rfl, hw'⟩; have hw2 := hw'.symm; subst hw2; clear hw')
      go_ret
      exact ⟨rfl, rfl⟩
    | true =>
      cases h3 : (decide (1 ≤ k) && decide (k ≤ 8)) with
      | false =>
        go_enter Try.func47, Try.ntmps47
        go_wp2_with (go_at_call 66; refine (within_any _ _ _ _).mono ?_; rintro e w' ⟨rfl, hw'⟩; have hw2 := hw'.symm; subst hw2; clear hw')
        go_ret
        exact ⟨rfl, rfl⟩
      | true =>
        go_enter Try.func47, Try.ntmps47
        go_wp2_with (go_at_call 66; refine (within_any _ _ _ _).mono ?_; rintro e w' ⟨rfl, hw'⟩; have hw2 := hw'.symm; subst hw2; clear hw')
        go_ret
        exact ⟨rfl, rfl⟩
set_option maxRecDepth 100000 in
theorem hasSeq_any (V : TabV) (T : Tab) (w : World) : Calls Try.prog 57 #[.agg (tabA V T)] w fun e w' => e = .returned (.bool (T.sp != -1)) ∧ Below w.heap.size w w' := by
  unfold tabA
  have hb := below_alloc w (.cells #[.int .i64 T.pages, .int .i64 T.logical, .int .i64 T.k, .slice V.pd V.nd V.cd, .slice V.ph V.nh V.ch, .int .i64 T.sp, .int .i64 T.sl, .int .i64 T.su, .slice V.pl V.nl V.cl] 28)
  go_enter Try.func57, Try.ntmps57
  go_wp2
  go_ret
  exact ⟨rfl, hb⟩
/-- Whether a table has a block. -/
def hasBk (T : Tab) (b : Int) : Bool := decide (0 ≤ b) && decide (b ≤ T.logical - 1)
set_option maxRecDepth 100000 in
set_option maxHeartbeats 2000000 in
theorem hasBlock_any (V : TabV) (T : Tab) (b : Int) (w : World) (hl : -1000 ≤ T.logical ∧ T.logical ≤ 1000) : Calls Try.prog 39 #[.agg (tabA V T), .int .i64 b] w fun e w' => e = .returned (.bool (hasBk T b)) ∧ Below w.heap.size w w' := by
  unfold tabA hasBk
  have hb := below_alloc w (.cells #[.int .i64 T.pages, .int .i64 T.logical, .int .i64 T.k, .slice V.pd V.nd V.cd, .slice V.ph V.nh V.ch, .int .i64 T.sp, .int .i64 T.sl, .int .i64 T.su, .slice V.pl V.nl V.cl] 28)
  obtain ⟨m, hm⟩ : ∃ m, T.logical - 1 = m := ⟨_, rfl⟩
  have h1 : IntKind.i64.wrap (T.logical - 1) = m := by rw [IntKind.wrap_i64]; omega
  have h2 : wrap64 (T.logical - 1) = m := (IntWalk.i64_left _).symm.trans h1
  have hw := fun w => within_any b 0 m w
  rw [hm]
  clear hl hm
  go_enter Try.func39, Try.ntmps39
  go_wp2_with (go_at_call 66; refine (hw _).mono ?_; rintro e w' ⟨rfl, hw'⟩; have hw2 := hw'.symm; subst hw2; clear hw')
  go_ret
  exact ⟨rfl, hb⟩
/-- Whether a table has a page. -/
def hasPg (T : Tab) (p : Int) : Bool := decide (0 ≤ p) && decide (p ≤ T.logical * T.pages - 1)
set_option maxRecDepth 100000 in
set_option maxHeartbeats 2000000 in
theorem hasPage_any (V : TabV) (T : Tab) (p : Int) (w : World) (hl : -100000000 ≤ T.logical * T.pages ∧ T.logical * T.pages ≤ 100000000) : Calls Try.prog 55 #[.agg (tabA V T), .int .i64 p] w fun e w' => e = .returned (.bool (hasPg T p)) ∧ Below w.heap.size w w' := by
  unfold tabA hasPg
  have hb := below_alloc w (.cells #[.int .i64 T.pages, .int .i64 T.logical, .int .i64 T.k, .slice V.pd V.nd V.cd, .slice V.ph V.nh V.ch, .int .i64 T.sp, .int .i64 T.sl, .int .i64 T.su, .slice V.pl V.nl V.cl] 28)
  obtain ⟨m, hm⟩ : ∃ m, T.logical * T.pages = m := ⟨_, rfl⟩
  obtain ⟨m', hm'⟩ : ∃ m', m - 1 = m' := ⟨_, rfl⟩
  have h1 : IntKind.i64.wrap (T.logical * T.pages) = m := by rw [IntKind.wrap_i64]; omega
  have h2 : wrap64 (T.logical * T.pages) = m := (IntWalk.i64_left _).symm.trans h1
  have h3 : IntKind.i64.wrap (m - 1) = m' := by rw [IntKind.wrap_i64]; omega
  have h4 : wrap64 (m - 1) = m' := (IntWalk.i64_left _).symm.trans h3
  have hw := fun w => within_any p 0 m' w
  rw [hm, hm']
  clear hl hm hm'
  go_enter Try.func55, Try.ntmps55
  go_wp2_with (go_at_call 66; refine (hw _).mono ?_; rintro e w' ⟨rfl, hw'⟩; have hw2 := hw'.symm; subst hw2; clear hw')
  go_ret
  exact ⟨rfl, hb⟩
/-- Whether the sequential log may be. -/
def okSeq (T : Tab) : Bool := if T.sp = -1 then decide (T.sl = 0) && decide (T.su = 0) else hasBk T T.sl && (decide (0 ≤ T.su) && decide (T.su ≤ T.pages))
set_option linter.unusedSimpArgs false in
set_option maxRecDepth 100000 in
set_option maxHeartbeats 2000000 in
theorem seqMayBe_any (V : TabV) (T : Tab) (w : World) (hl : -1000 ≤ T.logical ∧ T.logical ≤ 1000) : Calls Try.prog 50 #[.agg (tabA V T)] w fun e w' => e = .returned (.bool (okSeq T)) ∧ Below w.heap.size w w' := by
  have hs := fun w => hasSeq_any V T w
  have hb0 := below_alloc w (.cells (tabA V T) 28)
  have b0 := Blk.new' w 28 (tabA V T)
  have hbk := fun w => hasBlock_any V T T.sl w hl
  have hw := fun w => within_any T.su 0 T.pages w
  obtain ⟨q, hq⟩ : ∃ q, okSeq T = q := ⟨_, rfl⟩
  rw [hq]
  unfold okSeq at hq
  clear hl
  by_cases h1 : T.sp = -1
  · rw [if_pos h1] at hq
    rw [show (T.sp != -1) = false from by simp [h1]] at hs
    have m2 : (T.sl == 0) = decide (T.sl = 0) := by cases h : decide (T.sl = 0) <;> simp_all
    have m3 : (T.su == 0) = decide (T.su = 0) := by cases h : decide (T.su = 0) <;> simp_all
    clear hbk hw h1
    unfold tabA at hs hb0 b0 ⊢
    generalize decide (T.sl = 0) = x2 at *
    generalize decide (T.su = 0) = x3 at *
    cases x2 with
    | true =>
      have HQ : Hid (x3 = q) := by show _ = _; simpa using hq
      clear hq
      go_enter Try.func50, Try.ntmps50
      go_wp2_with (go_at_call 57; refine (hs _).mono ?_; rintro e w1 ⟨rfl, hb1⟩; have b1 := b0.kept hb1; have z0 := b1.cell' (i := 6) rfl; have z1 := b1.cell' (i := 7) rfl)
      go_ret
      exact ⟨ret_bool HQ.out, bt hb0 hb1⟩
    | false =>
      have HQ : Hid (false = q) := by show _ = _; simpa using hq
      clear hq
      go_enter Try.func50, Try.ntmps50
      go_wp2_with (go_at_call 57; refine (hs _).mono ?_; rintro e w1 ⟨rfl, hb1⟩; have b1 := b0.kept hb1; have z0 := b1.cell' (i := 6) rfl; have z1 := b1.cell' (i := 7) rfl)
      go_ret
      exact ⟨ret_bool HQ.out, bt hb0 hb1⟩
  · rw [if_neg h1] at hq
    rw [show (T.sp != -1) = true from by simpa using h1] at hs
    clear h1
    generalize (decide (0 ≤ T.su) && decide (T.su ≤ T.pages)) = x3 at *
    generalize hasBk T T.sl = x2 at *
    unfold tabA at hs hb0 b0 hbk ⊢
    have HQ : Hid ((x2 && x3) = q) := hq
    clear hq
    cases x2 with
    | true =>
      go_enter Try.func50, Try.ntmps50
      go_wp2_with (first | (go_at_call 57; refine (hs _).mono ?_; rintro e w1 ⟨rfl, hb1⟩; have b1 := b0.kept hb1; have z0 := b1.cell' (i := 0) rfl; have z1 := b1.cell' (i := 1) rfl; have z2 := b1.cell' (i := 2) rfl; have z3 := b1.cell' (i := 3) rfl; have z4 := b1.cell' (i := 4) rfl; have z5 := b1.cell' (i := 5) rfl; have z6 := b1.cell' (i := 6) rfl; have z7 := b1.cell' (i := 7) rfl; have z8 := b1.cell' (i := 8) rfl) | (go_at_call 39; refine (hbk _).mono ?_; rintro e w2 ⟨rfl, hb2⟩; have b2 := b1.kept hb2; have y0 := b2.cell' (i := 0) rfl; have y1 := b2.cell' (i := 1) rfl; have y2 := b2.cell' (i := 2) rfl; have y3 := b2.cell' (i := 3) rfl; have y4 := b2.cell' (i := 4) rfl; have y5 := b2.cell' (i := 5) rfl; have y6 := b2.cell' (i := 6) rfl; have y7 := b2.cell' (i := 7) rfl; have y8 := b2.cell' (i := 8) rfl) | (go_at_call 66; refine (hw _).mono ?_; rintro e w3 ⟨rfl, rfl⟩))
      go_ret
      exact ⟨ret_bool (by rw [← HQ.out]; rfl), bt (bt hb0 hb1) hb2⟩
    | false =>
      go_enter Try.func50, Try.ntmps50
      go_wp2_with (first | (go_at_call 57; refine (hs _).mono ?_; rintro e w1 ⟨rfl, hb1⟩; have b1 := b0.kept hb1; have z0 := b1.cell' (i := 0) rfl; have z1 := b1.cell' (i := 1) rfl; have z2 := b1.cell' (i := 2) rfl; have z3 := b1.cell' (i := 3) rfl; have z4 := b1.cell' (i := 4) rfl; have z5 := b1.cell' (i := 5) rfl; have z6 := b1.cell' (i := 6) rfl; have z7 := b1.cell' (i := 7) rfl; have z8 := b1.cell' (i := 8) rfl) | (go_at_call 39; refine (hbk _).mono ?_; rintro e w2 ⟨rfl, hb2⟩; have b2 := b1.kept hb2; have y0 := b2.cell' (i := 0) rfl; have y1 := b2.cell' (i := 1) rfl; have y2 := b2.cell' (i := 2) rfl; have y3 := b2.cell' (i := 3) rfl; have y4 := b2.cell' (i := 4) rfl; have y5 := b2.cell' (i := 5) rfl; have y6 := b2.cell' (i := 6) rfl; have y7 := b2.cell' (i := 7) rfl; have y8 := b2.cell' (i := 8) rfl))
      go_ret
      exact ⟨ret_bool (by rw [← HQ.out]; rfl), bt (bt hb0 hb1) hb2⟩
end Go.Proofs.Ythibaefoioeghaa
