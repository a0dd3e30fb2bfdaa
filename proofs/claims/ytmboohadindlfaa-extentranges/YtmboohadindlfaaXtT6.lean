/-
  Runs: the iterator that it answers, and what it stands on.
-/
import Derived.Test.YtmboohadindlfaaXtT5
namespace Go.Proofs.Ytmboohadindlfaa
open Go.RowKit
/-- The iterator of the parts of a row of its own, whose boxes begin at B1. -/
abbrev partsF (B1 : Nat) : Value := .func (.func 53) #[] #[.pointer (some ⟨B1, 0, none⟩), .pointer (some ⟨B1 + 1, 0, none⟩), .pointer (some ⟨B1 + 2, 0, none⟩)]
set_option linter.unusedSimpArgs false in
set_option maxRecDepth 100000 in
set_option maxHeartbeats 4000000 in
theorem Runs_any (p : Option Addr) (n c : Nat) (l : List Ext) (f u : Int) (w : World) (h : InE w p n c l) (hn : n ≤ 100000) :
    Calls Try.prog 42 #[.slice p n c, .int .i64 f, .int .i64 u] w fun e w' => ∃ N B1 p2 c2, e = .returned (partsF B1) ∧ PartsIn w' N B1 (B1 + 1) (B1 + 2) p2 c2 f u (takenL l) ∧ N ≤ n ∧ w.heap.size ≤ B1 ∧ (∀ a, p2 = some a → w.heap.size ≤ a.block ∧ a.block < B1) ∧ Below w.heap.size w w' := by
  go_enter Try.func42, Try.ntmps42
  go_wp2_with fail
  refine (taken_any p n c l w h).mono ?_
  rintro e9 w1 ⟨p1, n1, c1, rfl, hi, hn1, -, hb1⟩
  have HT1 : Hid (∀ e ∈ takenL l, oneB e = true) := taken_one l
  go_wp2_with fail
  refine (cloneE_any p1 n1 c1 (takenL l) w1 hi (by omega)).mono ?_
  rintro e9 w2 ⟨p2, c2, rfl, ho, hb2⟩
  have hs1 := hb1.size
  have hs2 := hb2.size
  obtain ⟨p3, c3, hv, hin⟩ := in_of_ownsE ho (by omega)
  cases hv
  have HA : Hid (∀ a, p2 = some a → w.heap.size ≤ a.block ∧ a.block < w2.heap.size) := by
    intro a ha
    rcases ho.2 with ⟨hv, _⟩ | ⟨g, cap, cur, hv, hg, hh, _⟩
    · cases hv; cases ha
    · cases hv; cases ha
      exact ⟨Nat.le_trans hs1 hg, (Array.getElem?_eq_some_iff.1 hh).1⟩
  clear ho
  go_wp2_with fail
  refine (parts_call p2 n1 c2 f u w2).mono ?_
  rintro e9 w3 ⟨rfl, rfl⟩
  have hP := partsIn_new f u hin HT1.out
  have hb3 := hb1.trans ((bt hb2 (below_al (below_al (below_alloc w2 (.cells #[.slice p2 n1 c2] 22)) (.cells #[.int .i64 f] 3)) (.cells #[.int .i64 u] 3))).mono hs1)
  generalize World.alloc (World.alloc (World.alloc w2 _) _) _ = w3 at *
  go_wp2
  go_ret
  exact ⟨n1, w2.heap.size, p2, c2, rfl, hP, by omega, by omega, HA.out, hb3⟩
end Go.Proofs.Ytmboohadindlfaa
