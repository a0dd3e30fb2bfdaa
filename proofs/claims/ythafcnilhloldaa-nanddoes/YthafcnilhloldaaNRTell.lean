/-
  What the reference's chip tells, in any state: block, page, can, Look.
-/
import Derived.Test.YthafcnilhloldaaNRs
namespace Go.Proofs.Ythafcnilhloldaa
open Go.RowKit
set_option linter.unusedSimpArgs false in
set_option linter.unusedVariables false in
set_option maxRecDepth 100000 in
set_option maxHeartbeats 4000000 in
theorem sblock_any (r : Nat) (s : St) (g cr : Nat) (PR : Nat → Value) (b : Int) (w : World) (h : RsIn w r s g cr PR) :
    Calls Try.prog 53 #[.pointer (some ⟨r, 0, none⟩), .int .i64 b] w fun e w' => e = .returned (.bool (decide (0 ≤ b ∧ b < (s.nb : Int)))) ∧ w' = w := by
  obtain ⟨ep, el, ec, h1, h2⟩ := h.chip
  have c0 := h1.cell' (i := 0) rfl
  clear h1 h2 h
  by_cases hb0 : 0 ≤ b
  · by_cases hb1 : b < (s.nb : Int)
    · rw [decide_eq_true (p := 0 ≤ b ∧ b < (s.nb : Int)) ⟨hb0, hb1⟩]
      have g0 : b ≥ 0 := hb0
      go_enter Try.func53, Try.ntmps53
      go_wp2
      go_ret
      exact ⟨rfl, rfl⟩
    · rw [decide_eq_false (p := 0 ≤ b ∧ b < (s.nb : Int)) (fun h => hb1 h.2)]
      have g0 : b ≥ 0 := hb0
      go_enter Try.func53, Try.ntmps53
      go_wp2
      go_ret
      exact ⟨rfl, rfl⟩
  · rw [decide_eq_false (p := 0 ≤ b ∧ b < (s.nb : Int)) (fun h => hb0 h.1)]
    have g0 : ¬ b ≥ 0 := hb0
    go_enter Try.func53, Try.ntmps53
    go_wp2
    go_ret
    exact ⟨rfl, rfl⟩
set_option linter.unusedSimpArgs false in
set_option linter.unusedVariables false in
set_option maxRecDepth 100000 in
set_option maxHeartbeats 4000000 in
theorem spage_any (r : Nat) (s : St) (g cr : Nat) (PR : Nat → Value) (b : Int) (w : World) (h : RsIn w r s g cr PR) :
    Calls Try.prog 61 #[.pointer (some ⟨r, 0, none⟩), .int .i64 b] w fun e w' => e = .returned (.bool (decide (0 ≤ b ∧ b < (s.np : Int)))) ∧ w' = w := by
  obtain ⟨ep, el, ec, h1, h2⟩ := h.chip
  have c0 := h1.cell' (i := 1) rfl
  clear h1 h2 h
  by_cases hb0 : 0 ≤ b
  · by_cases hb1 : b < (s.np : Int)
    · rw [decide_eq_true (p := 0 ≤ b ∧ b < (s.np : Int)) ⟨hb0, hb1⟩]
      have g0 : b ≥ 0 := hb0
      go_enter Try.func61, Try.ntmps61
      go_wp2
      go_ret
      exact ⟨rfl, rfl⟩
    · rw [decide_eq_false (p := 0 ≤ b ∧ b < (s.np : Int)) (fun h => hb1 h.2)]
      have g0 : b ≥ 0 := hb0
      go_enter Try.func61, Try.ntmps61
      go_wp2
      go_ret
      exact ⟨rfl, rfl⟩
  · rw [decide_eq_false (p := 0 ≤ b ∧ b < (s.np : Int)) (fun h => hb0 h.1)]
    have g0 : ¬ b ≥ 0 := hb0
    go_enter Try.func61, Try.ntmps61
    go_wp2
    go_ret
    exact ⟨rfl, rfl⟩
set_option linter.unusedSimpArgs false in
set_option linter.unusedVariables false in
set_option maxRecDepth 100000 in
set_option maxHeartbeats 4000000 in
theorem slook_any (r : Nat) (s : St) (g cr : Nat) (PR : Nat → Value) (b : Int) (w : World) (h : RsIn w r s g cr PR) :
    Calls Try.prog 34 #[.pointer (some ⟨r, 0, none⟩), .int .i64 b] w fun e w' => e = .returned (.tuple #[.agg #[.int .i64 (lkW s b), .int .i64 (lkN s b), .bool (lkB s b)], .int .i64 (lkE s b)]) ∧ Below w.heap.size w w' := by
  have hbel := below_alloc w (.cells #[.int .i64 0, .int .i64 0, .bool false] 54)
  have h' := h.below hbel
  obtain ⟨ep, el, ec, hc', he⟩ := h'.chip
  have hh := sblock_any r s g cr PR b _ h'
  have hler := h.ler
  unfold lkW lkN lkB lkE
  cases hx : blkAt s b with
  | none =>
    rw [show decide (0 ≤ b ∧ b < (s.nb : Int)) = false from by simpa using blkAt_out h.bll hx] at hh
    clear hx
    go_enter Try.func34, Try.ntmps34
    go_wp2_with (go_at_call 53; refine hh.mono ?_; rintro e w' ⟨rfl, rfl⟩)
    exact bodyPost_ret (v := .tuple #[.agg #[.int .i64 0, .int .i64 0, .bool false], .int .i64 22]) (by simp [results, Try.results34, go_sem]) rfl ⟨rfl, hbel⟩
  | some k =>
    obtain ⟨bk, rfl, hbk, hk⟩ := blkAt_in h.bll hx
    rw [show decide (0 ≤ (bk : Int) ∧ (bk : Int) < (s.nb : Int)) = true from by simp; omega] at hh
    obtain ⟨BC, hB, hl, hcell⟩ := h'.blks
    obtain ⟨_, h1, h2, h3⟩ := hcell bk _ hk
    have q1 := hB.cell' h1
    have q2 := hB.cell' h2
    have q3 := hB.cell' h3
    have hc2 := hc'.cell' (i := 2) rfl
    have hbI : (bk : Int) < (s.nb : Int) := by omega
    clear hx hcell hB hk h1 h2 h3 h h' hc' he
    dsimp only
    generalize (k.wear : Int) = kw at *
    generalize (k.next : Int) = kn at *
    go_enter Try.func34, Try.ntmps34
    go_wp2_with (go_at_call 53; refine hh.mono ?_; rintro e w' ⟨rfl, rfl⟩)
    exact bodyPost_ret (v := .tuple #[.agg #[.int .i64 kw, .int .i64 kn, .bool k.bad], .int .i64 0]) (by simp [results, Try.results34, go_sem]) rfl ⟨rfl, below_alloc _ _⟩
/-- What the reference's can answers. -/
def canE (s : St) (b p : Int) : Int := if reachE s.nb s.np s.on b p = 0 then (match s.bl[b.toNat]? with | some k => if k.bad then 23 else 0 | none => 0) else reachE s.nb s.np s.on b p
set_option linter.unusedSimpArgs false in
set_option linter.unusedVariables false in
set_option maxRecDepth 100000 in
set_option maxHeartbeats 4000000 in
theorem can_any (r : Nat) (s : St) (g cr : Nat) (PR : Nat → Value) (b p : Int) (w : World) (h : RsIn w r s g cr PR) :
    Calls Try.prog 57 #[.pointer (some ⟨r, 0, none⟩), .int .i64 b, .int .i64 p] w fun e w' => e = .returned (.int .i64 (canE s b p)) ∧ w' = w := by
  have hh := sblock_any r s g cr PR b w h
  have hp := spage_any r s g cr PR p w h
  obtain ⟨ep, el, ec, hc, he⟩ := h.chip
  have c5 := hc.cell' (i := 5) rfl
  have c2 := hc.cell' (i := 2) rfl
  have hler := h.ler
  unfold canE reachE
  cases hon : s.on with
  | false =>
    rw [hon] at c5
    clear hh hp h hc he
    simp only [Bool.false_eq_true, if_false]
    go_enter Try.func57, Try.ntmps57
    go_wp2
    go_ret
    exact ⟨rfl, rfl⟩
  | true =>
    rw [hon] at c5
    simp only [if_true]
    by_cases hb : 0 ≤ b ∧ b < (s.nb : Int)
    · rw [decide_eq_true hb] at hh
      by_cases hq : 0 ≤ p ∧ p < (s.np : Int)
      · rw [decide_eq_true hq] at hp
        rw [if_pos (show 0 ≤ b ∧ b < (s.nb : Int) ∧ 0 ≤ p ∧ p < (s.np : Int) from ⟨hb.1, hb.2, hq.1, hq.2⟩), if_pos rfl]
        obtain ⟨bk, rfl⟩ : ∃ i : Nat, b = (i : Int) := ⟨b.toNat, by omega⟩
        obtain ⟨k, hk⟩ := h.get bk (by omega)
        rw [show (bk : Int).toNat = bk from rfl, hk]
        obtain ⟨BC, hB, hl, hcell⟩ := h.blks
        obtain ⟨_, h1, h2, h3⟩ := hcell bk _ hk
        have q3 := hB.cell' h3
        have hbI : (bk : Int) < (s.nb : Int) := hb.2
        clear hcell hB hk h1 h2 h3 h hc he hb hq
        dsimp only
        cases hkb : k.bad with
        | true =>
          rw [hkb] at q3
          simp only [if_true]
          go_enter Try.func57, Try.ntmps57
          go_wp2_with (first | (go_at_call 53; refine hh.mono ?_; rintro e w' ⟨rfl, rfl⟩) | (go_at_call 61; refine hp.mono ?_; rintro e w' ⟨rfl, rfl⟩))
          go_ret
          exact ⟨rfl, rfl⟩
        | false =>
          rw [hkb] at q3
          simp only [Bool.false_eq_true, if_false]
          go_enter Try.func57, Try.ntmps57
          go_wp2_with (first | (go_at_call 53; refine hh.mono ?_; rintro e w' ⟨rfl, rfl⟩) | (go_at_call 61; refine hp.mono ?_; rintro e w' ⟨rfl, rfl⟩))
          go_ret
          exact ⟨rfl, rfl⟩
      · rw [decide_eq_false hq] at hp
        rw [if_neg (show ¬ (0 ≤ b ∧ b < (s.nb : Int) ∧ 0 ≤ p ∧ p < (s.np : Int)) from fun h => hq ⟨h.2.2.1, h.2.2.2⟩), if_neg (by decide)]
        clear h hc he hb hq
        go_enter Try.func57, Try.ntmps57
        go_wp2_with (first | (go_at_call 53; refine hh.mono ?_; rintro e w' ⟨rfl, rfl⟩) | (go_at_call 61; refine hp.mono ?_; rintro e w' ⟨rfl, rfl⟩))
        go_ret
        exact ⟨rfl, rfl⟩
    · rw [decide_eq_false hb] at hh
      rw [if_neg (show ¬ (0 ≤ b ∧ b < (s.nb : Int) ∧ 0 ≤ p ∧ p < (s.np : Int)) from fun h => hb ⟨h.1, h.2.1⟩), if_neg (by decide)]
      clear h hc he hb hp
      go_enter Try.func57, Try.ntmps57
      go_wp2_with (go_at_call 53; refine hh.mono ?_; rintro e w' ⟨rfl, rfl⟩)
      go_ret
      exact ⟨rfl, rfl⟩
end Go.Proofs.Ythafcnilhloldaa
