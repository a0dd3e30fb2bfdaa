/-
  What the reference's Look answers of a new chip.
-/
import Derived.Test.YthafcnilhloldaaNRc
import Derived.Test.YthafcnilhloldaaNLook
namespace Go.Proofs.Ythafcnilhloldaa
open Go.RowKit
theorem new_blk {nb np : Nat} {es : List Ev} {m : List Bool} {b : Int} : blkAt (newStB nb np es m) b = if 0 ≤ b then (m[b.toNat]?).map (fun x => (⟨[], 0, 0, x⟩ : BlkS)) else none := by
  unfold blkAt newStB
  simp only [List.getElem?_map]
set_option linter.unusedSimpArgs false in
set_option linter.unusedVariables false in
set_option maxRecDepth 100000 in
set_option maxHeartbeats 4000000 in
theorem rblock_any (r B nb np : Nat) (L : List Value) (m : List Bool) (b : Int) (w : World) (h : RcIn w r B nb np L m) :
    Calls Try.prog 53 #[.pointer (some ⟨r, 0, none⟩), .int .i64 b] w fun e w' => e = .returned (.bool (decide (0 ≤ b ∧ b < (nb : Int)))) ∧ w' = w := by
  obtain ⟨v, ve, h1, h2⟩ := h.chip
  have c0 := h1.cell' (i := 0) rfl
  clear h1 h2 h
  by_cases hb0 : 0 ≤ b
  · by_cases hb1 : b < (nb : Int)
    · rw [decide_eq_true (p := 0 ≤ b ∧ b < (nb : Int)) ⟨hb0, hb1⟩]
      have g0 : b ≥ 0 := hb0
      go_enter Try.func53, Try.ntmps53
      go_wp2
      go_ret
      exact ⟨rfl, rfl⟩
    · rw [decide_eq_false (p := 0 ≤ b ∧ b < (nb : Int)) (fun h => hb1 h.2)]
      have g0 : b ≥ 0 := hb0
      go_enter Try.func53, Try.ntmps53
      go_wp2
      go_ret
      exact ⟨rfl, rfl⟩
  · rw [decide_eq_false (p := 0 ≤ b ∧ b < (nb : Int)) (fun h => hb0 h.1)]
    have g0 : ¬ b ≥ 0 := hb0
    go_enter Try.func53, Try.ntmps53
    go_wp2
    go_ret
    exact ⟨rfl, rfl⟩
theorem zip_atL {L : List Value} {m : List Bool} {i : Nat} {b : Bool} (hl : L.length = m.length) (h : m[i]? = some b) : (L.zip m)[i]? = some (L.getD i undef, b) := by
  induction m generalizing L i with
  | nil => cases h
  | cons a m ih =>
    cases L with
    | nil => simp at hl
    | cons v L =>
      cases i with
      | zero => cases h; rfl
      | succ i => simpa using ih (by simpa using hl) h
theorem new_look {nb np : Nat} {es : List Ev} {m : List Bool} {b : Int} : lkW (newStB nb np es m) b = 0 ∧ lkN (newStB nb np es m) b = 0 := by
  unfold lkW lkN
  rw [new_blk]
  by_cases hb : 0 ≤ b
  · rw [if_pos hb]
    cases m[b.toNat]? <;> exact ⟨rfl, rfl⟩
  · rw [if_neg hb]
    exact ⟨rfl, rfl⟩
set_option linter.unusedSimpArgs false in
set_option linter.unusedVariables false in
set_option maxRecDepth 100000 in
set_option maxHeartbeats 4000000 in
theorem rlook_any (r B nb np : Nat) (L : List Value) (es : List Ev) (m : List Bool) (b : Int) (w : World) (h : RcIn w r B nb np L m) :
    Calls Try.prog 34 #[.pointer (some ⟨r, 0, none⟩), .int .i64 b] w fun e w' => e = .returned (.tuple #[.agg #[.int .i64 (lkW (newStB nb np es m) b), .int .i64 (lkN (newStB nb np es m) b), .bool (lkB (newStB nb np es m) b)], .int .i64 (lkE (newStB nb np es m) b)]) ∧ Below w.heap.size w w' := by
  have hbel := below_alloc w (.cells #[.int .i64 0, .int .i64 0, .bool false] 54)
  have h' := h.below hbel
  have hrb := rblock_any r B nb np L m b _ h'
  rw [new_look.1, new_look.2]
  unfold lkB lkE
  rw [new_blk]
  by_cases hin : 0 ≤ b ∧ b < (nb : Int)
  · rw [decide_eq_true hin] at hrb
    obtain ⟨i, rfl⟩ : ∃ i : Nat, b = (i : Int) := ⟨b.toNat, by omega⟩
    have hil : i < m.length := by rw [h.ml]; omega
    obtain ⟨x, hx⟩ : ∃ x, m[i]? = some x := ⟨_, List.getElem?_eq_getElem hil⟩
    rw [if_pos hin.1, show (i : Int).toNat = i from rfl, hx]
    obtain ⟨v, ve, h1, h2⟩ := h'.chip
    obtain ⟨_, q1, q2, q3⟩ := rcOf_at (zip_atL (h.ll.trans h.ml.symm) hx)
    have c2 := h1.cell' (i := 2) rfl
    obtain ⟨p, c, rfl⟩ := owns_slice h2
    cases p with
    | none =>
      exfalso
      rcases h2.2 with ⟨e, h3⟩ | ⟨g, cap, cur, e, _⟩
      · omega
      · cases e
    | some a =>
      obtain ⟨g, j, u⟩ := a
      obtain ⟨rfl, rfl⟩ : j = 0 ∧ u = none := by
        rcases h2.2 with ⟨e, _⟩ | ⟨g', cap, cur, e, _⟩
        · cases e
        · cases e; exact ⟨rfl, rfl⟩
      have r1 := h2.cells (g := g) rfl _ _ q1
      have r2 := h2.cells (g := g) rfl _ _ q2
      have r3 := h2.cells (g := g) rfl _ _ q3
      rw [addr_add, Nat.zero_add] at r1 r2 r3
      have hiI : (i : Int) < (nb : Int) := hin.2
      clear q1 q2 q3 h1 h2 h h' hin hil hx
      dsimp only [Option.map]
      go_enter Try.func34, Try.ntmps34
      go_wp2_with (first | (go_at_call 53; refine hrb.mono ?_; rintro e w' ⟨rfl, rfl⟩))
      exact bodyPost_ret (v := .tuple #[.agg #[.int .i64 0, .int .i64 0, .bool x], .int .i64 0]) (by simp [results, Try.results34, go_sem]) rfl ⟨rfl, below_alloc _ _⟩
  · rw [decide_eq_false hin] at hrb
    have hno : (if 0 ≤ b then (m[b.toNat]?).map (fun x => (⟨[], 0, 0, x⟩ : BlkS)) else none) = none := by
      split
      · rw [List.getElem?_eq_none (by rw [h.ml]; omega)]; rfl
      · rfl
    rw [hno]
    clear h h' hno
    go_enter Try.func34, Try.ntmps34
    go_wp2_with (first | (go_at_call 53; refine hrb.mono ?_; rintro e w' ⟨rfl, rfl⟩))
    exact bodyPost_ret (v := .tuple #[.agg #[.int .i64 0, .int .i64 0, .bool false], .int .i64 22]) (by simp [results, Try.results34, go_sem]) rfl ⟨rfl, hbel⟩
end Go.Proofs.Ythafcnilhloldaa
