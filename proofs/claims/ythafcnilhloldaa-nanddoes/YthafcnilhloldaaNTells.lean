/-
  What the small calls of a chip answer: made, has, reach, outcome, Ops, On, Geometry.
-/
import Derived.Test.YthafcnilhloldaaNBlank
namespace Go.Proofs.Ythafcnilhloldaa
open Go.RowKit
/-- The cells of a chip. -/
def chipCells (nb np : Nat) (bs es : Value) (ops : Nat) (on : Bool) : List Value := [.int .i64 (nb : Int), .int .i64 (np : Int), bs, es, .int .i64 (ops : Int), .bool on]
theorem made_any (c : Nat) (p : Option Addr) (n d : Nat) (w : World) (h : w.cell? ⟨c, 2, none⟩ = some (.slice p n d)) :
    Calls Try.prog 33 #[.pointer (some ⟨c, 0, none⟩)] w fun e w' => e = .returned (.bool (decide (0 < n))) ∧ w' = w := by
  go_enter Try.func33, Try.ntmps33
  go_wp2
  go_ret
  exact ⟨ret_bool (by simp), rfl⟩
theorem made_none (w : World) : Calls Try.prog 33 #[.pointer none] w fun e w' => e = .returned (.bool false) ∧ w' = w := by
  go_enter Try.func33, Try.ntmps33
  go_wp2
  go_ret
  exact ⟨rfl, rfl⟩
theorem has_any (c : Nat) (p : Option Addr) (n d : Nat) (k : Int) (w : World) (h : w.cell? ⟨c, 2, none⟩ = some (.slice p n d)) :
    Calls Try.prog 47 #[.pointer (some ⟨c, 0, none⟩), .int .i64 k] w fun e w' => e = .returned (.bool (decide (0 ≤ k ∧ k < n))) ∧ w' = w := by
  by_cases h0 : 0 ≤ k
  · go_enter Try.func47, Try.ntmps47
    go_wp2
    go_ret
    exact ⟨ret_bool (by simp [h0]), rfl⟩
  · go_enter Try.func47, Try.ntmps47
    go_wp2
    go_ret
    exact ⟨ret_bool (by simp; omega), rfl⟩
/-- What keeps a call from a page. -/
def reachE (nb np : Nat) (on : Bool) (b p : Int) : Int := if on then (if 0 ≤ b ∧ b < nb ∧ 0 ≤ p ∧ p < np then 0 else 22) else 8
theorem reach_any (c : Nat) (bp : Option Addr) (nb np d : Nat) (on : Bool) (b p : Int) (w : World) (h0 : 0 < nb) (h : w.cell? ⟨c, 2, none⟩ = some (.slice bp nb d)) (h1 : w.cell? ⟨c, 1, none⟩ = some (.int .i64 (np : Int))) (h5 : w.cell? ⟨c, 5, none⟩ = some (.bool on)) :
    Calls Try.prog 37 #[.pointer (some ⟨c, 0, none⟩), .int .i64 b, .int .i64 p] w fun e w' => e = .returned (.int .i64 (reachE nb np on b p)) ∧ w' = w := by
  have hm := made_any c bp nb d w h
  have hh := has_any c bp nb d b w h
  rw [show decide (0 < nb) = true from by simpa using h0] at hm
  cases on with
  | false =>
    go_enter Try.func37, Try.ntmps37
    go_wp2_with (go_at_call 33; refine hm.mono ?_; rintro e w' ⟨rfl, rfl⟩)
    go_ret
    exact ⟨rfl, rfl⟩
  | true =>
    by_cases hb : 0 ≤ b ∧ b < nb
    · rw [show decide (0 ≤ b ∧ b < (nb : Int)) = true from by simpa using hb] at hh
      by_cases hp0 : p < 0
      · have e : reachE nb np true b p = 22 := by unfold reachE; rw [if_pos rfl, if_neg (by omega)]
        rw [e]
        clear hb e
        go_enter Try.func37, Try.ntmps37
        go_wp2_with (first | (go_at_call 33; refine hm.mono ?_; rintro e w' ⟨rfl, rfl⟩) | (go_at_call 47; refine hh.mono ?_; rintro e w' ⟨rfl, rfl⟩))
        go_ret
        exact ⟨rfl, rfl⟩
      · by_cases hp1 : p < np
        · have e : reachE nb np true b p = 0 := by unfold reachE; rw [if_pos rfl, if_pos (by omega)]
          rw [e]
          clear hb e
          go_enter Try.func37, Try.ntmps37
          go_wp2_with (first | (go_at_call 33; refine hm.mono ?_; rintro e w' ⟨rfl, rfl⟩) | (go_at_call 47; refine hh.mono ?_; rintro e w' ⟨rfl, rfl⟩))
          go_ret
          exact ⟨rfl, rfl⟩
        · have e : reachE nb np true b p = 22 := by unfold reachE; rw [if_pos rfl, if_neg (by omega)]
          rw [e]
          clear hb e
          go_enter Try.func37, Try.ntmps37
          go_wp2_with (first | (go_at_call 33; refine hm.mono ?_; rintro e w' ⟨rfl, rfl⟩) | (go_at_call 47; refine hh.mono ?_; rintro e w' ⟨rfl, rfl⟩))
          go_ret
          exact ⟨rfl, rfl⟩
    · have e : reachE nb np true b p = 22 := by unfold reachE; rw [if_pos rfl, if_neg (by omega)]
      rw [e]
      rw [show decide (0 ≤ b ∧ b < (nb : Int)) = false from by simpa using hb] at hh
      clear hb e
      go_enter Try.func37, Try.ntmps37
      go_wp2_with (first | (go_at_call 33; refine hm.mono ?_; rintro e w' ⟨rfl, rfl⟩) | (go_at_call 47; refine hh.mono ?_; rintro e w' ⟨rfl, rfl⟩))
      go_ret
      exact ⟨rfl, rfl⟩
/-- How an operation ends, by its event's kind. -/
def outE (k : Int) : Int := if k = 1 then 25 else if k = 2 then 8 else 0
theorem outcome_any (k : Int) (w : World) : Calls Try.prog 41 #[.int .i64 k] w fun e w' => e = .returned (.int .i64 (outE k)) ∧ w' = w := by
  by_cases h1 : k = 1
  · subst h1
    go_enter Try.func41, Try.ntmps41
    go_wp2
    go_ret
    exact ⟨rfl, rfl⟩
  · by_cases h2 : k = 2
    · subst h2
      go_enter Try.func41, Try.ntmps41
      go_wp2
      go_ret
      exact ⟨rfl, rfl⟩
    · have e1 : (k == 1) = false := by simpa using h1
      have e2 : (k == 2) = false := by simpa using h2
      have e : outE k = 0 := by unfold outE; rw [if_neg h1, if_neg h2]
      rw [e]
      clear e h1 h2
      go_enter Try.func41, Try.ntmps41
      go_wp2
      go_ret
      exact ⟨rfl, rfl⟩
theorem ops_any (c : Nat) (bp : Option Addr) (nb d : Nat) (ops : Int) (w : World) (h0 : 0 < nb) (h : w.cell? ⟨c, 2, none⟩ = some (.slice bp nb d)) (h4 : w.cell? ⟨c, 4, none⟩ = some (.int .i64 ops)) :
    Calls Try.prog 26 #[.pointer (some ⟨c, 0, none⟩)] w fun e w' => e = .returned (.int .i64 ops) ∧ w' = w := by
  have hm := made_any c bp nb d w h
  rw [show decide (0 < nb) = true from by simpa using h0] at hm
  go_enter Try.func26, Try.ntmps26
  go_wp2_with (go_at_call 33; refine hm.mono ?_; rintro e w' ⟨rfl, rfl⟩)
  go_ret
  exact ⟨rfl, rfl⟩
theorem on_any (c : Nat) (bp : Option Addr) (nb d : Nat) (on : Bool) (w : World) (h0 : 0 < nb) (h : w.cell? ⟨c, 2, none⟩ = some (.slice bp nb d)) (h5 : w.cell? ⟨c, 5, none⟩ = some (.bool on)) :
    Calls Try.prog 25 #[.pointer (some ⟨c, 0, none⟩)] w fun e w' => e = .returned (.bool on) ∧ w' = w := by
  have hm := made_any c bp nb d w h
  rw [show decide (0 < nb) = true from by simpa using h0] at hm
  go_enter Try.func25, Try.ntmps25
  go_wp2_with (go_at_call 33; refine hm.mono ?_; rintro e w' ⟨rfl, rfl⟩)
  go_ret
  exact ⟨rfl, rfl⟩
theorem restart_any (c : Nat) (bp : Option Addr) (nb d : Nat) (on : Bool) (w : World) (h0 : 0 < nb) (h : w.cell? ⟨c, 2, none⟩ = some (.slice bp nb d)) (h5 : w.cell? ⟨c, 5, none⟩ = some (.bool on)) (hf : w.frozen? ⟨c, 5, none⟩ = false) :
    Calls Try.prog 27 #[.pointer (some ⟨c, 0, none⟩)] w fun e w' => e = .returned (.int .i64 0) ∧ w' = w.setCell ⟨c, 5, none⟩ (.bool true) := by
  have hm := made_any c bp nb d w h
  rw [show decide (0 < nb) = true from by simpa using h0] at hm
  go_enter Try.func27, Try.ntmps27
  go_wp2_with (go_at_call 33; refine hm.mono ?_; rintro e w' ⟨rfl, rfl⟩)
  go_ret
  exact ⟨rfl, rfl⟩
end Go.Proofs.Ythafcnilhloldaa
