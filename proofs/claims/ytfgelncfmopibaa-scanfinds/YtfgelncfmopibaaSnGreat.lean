/-
  scan.Greatest; few; SamePlaces.
-/
import Derived.Test.YtfgelncfmopibaaSnNewest
import Derived.Lib.MinMax
namespace Go.Proofs.Ytfgelncfmopibaa
open Go.RowKit
set_option maxHeartbeats 2000000 in
theorem greatest_any (p : Option Addr) (n c : Nat) (xs : List Fd) (w : World) (hx : InF w p n c xs) :
    Calls Try.prog 17 #[.slice p n c] w fun e w' => e = .returned (.int .i64 (greatL xs)) ∧ Below w.heap.size w w' := by
  have hroom := hx.room
  have HL : Hid (xs.length = n) := hx.len
  go_enter Try.func17, Try.ntmps17
  go_wp2
  go_loopw [3, 8] (fun gr i wr => ∃ k : Nat, k ≤ n ∧ i = .int .i64 k ∧ gr = .int .i64 (greatL (xs.take k)) ∧ Below w.heap.size w wr) (fun _ i _ => n - (intOf i).toNat)
  case atStart => exact ⟨0, Nat.zero_le _, rfl, rfl, Below.refl _ _⟩
  case round =>
    obtain ⟨k, hk, rfl, rfl, hbk⟩ := hrel
    by_cases hlt : k < n
    · obtain ⟨b, o, rfl, hbl, hc⟩ := (hx.below hbk).at' (by omega)
      obtain ⟨e0, e1, e2, e3, e4, e5⟩ := hc k hlt
      have hxl : k < xs.length := by rw [HL.out]; exact hlt
      have HU : Hid (greatL (xs.take (k + 1)) = if chkB (eF xs k).k (eF xs k).p (eF xs k).s (eF xs k).t then max (greatL (xs.take k)) (eF xs k).t else greatL (xs.take k)) := by
        show _ = _
        rw [takeF_succ xs k hxl, greatL_snoc]
      generalize eF xs k = x at *
      generalize greatL (xs.take k) = G at *
      obtain ⟨xh, xg, xk, xp, xs', xt⟩ := x
      dsimp only at e0 e1 e2 e3 e4 e5 HU
      clear hc
      have ba := below_alloc wr (.cells #[.int .i64 xh, .int .i64 xg, .int .i64 xk, .int .i64 xp, .int .i64 xs', .int .i64 xt] 33)
      have bb := Blk.new' wr 33 #[.int .i64 xh, .int .i64 xg, .int .i64 xk, .int .i64 xp, .int .i64 xs', .int .i64 xt]
      cases hch : chkB xk xp xs' xt with
      | false =>
        have hE : chkE xk xp xs' xt = 30 := by simp [chkE, hch]
        rw [hch] at HU
        go_wp2_with (go_at_call 42; refine (gcheck_any _ _ _ _ _).mono ?_; rintro e w1 ⟨rfl, hb1⟩; have q1 := bb.kept hb1; have t1 := bt (bt hbk ba) hb1; clear hb1; have z0 := q1.cell' (i := 0) rfl; have z1 := q1.cell' (i := 1) rfl; have z2 := q1.cell' (i := 2) rfl; have z3 := q1.cell' (i := 3) rfl; have z4 := q1.cell' (i := 4) rfl; have z5 := q1.cell' (i := 5) rfl)
        go_roundw
        case rel => exact ⟨k + 1, by omega, by go_num, by rw [HU.out]; rfl, t1⟩
        case measure => simp [intOf]; omega
      | true =>
        have hE : chkE xk xp xs' xt = 0 := by simp [chkE, hch]
        rw [hch] at HU
        go_wp2_with (go_at_call 42; refine (gcheck_any _ _ _ _ _).mono ?_; rintro e w1 ⟨rfl, hb1⟩; have q1 := bb.kept hb1; have t1 := bt (bt hbk ba) hb1; clear hb1; have z0 := q1.cell' (i := 0) rfl; have z1 := q1.cell' (i := 1) rfl; have z2 := q1.cell' (i := 2) rfl; have z3 := q1.cell' (i := 3) rfl; have z4 := q1.cell' (i := 4) rfl; have z5 := q1.cell' (i := 5) rfl)
        go_roundw
        case rel => exact ⟨k + 1, by omega, by go_num, by rw [HU.out]; rfl, t1⟩
        case measure => simp [intOf]; omega
    · obtain rfl : k = n := by omega
      rw [List.take_of_length_le (by rw [HL.out]; exact Nat.le_refl _)]
      go_wp2
      go_ret
      exact ⟨rfl, hbk⟩
/-- Whether a case is small. -/
def fewB (n m : Nat) (L : Int) : Bool := decide ((n : Int) ≤ 80) && (decide ((m : Int) ≤ 400) && (decide (L ≤ 24) || decide (256 < L)))
theorem few_any (P L K : Int) (p q : Option Addr) (n c m d : Nat) (w : World) :
    Calls Try.prog 13 #[.agg #[.int .i64 P, .int .i64 L, .int .i64 K, .slice p n c, .slice q m d]] w fun e w' => e = .returned (.bool (fewB n m L)) ∧ Below w.heap.size w w' := by
  have hb := below_alloc w (.cells #[.int .i64 P, .int .i64 L, .int .i64 K, .slice p n c, .slice q m d] 39)
  by_cases h1 : (n : Int) ≤ 80
  · by_cases h2 : (m : Int) ≤ 400
    · by_cases h3 : L ≤ 24
      · have e : fewB n m L = true := by simp [fewB, h1, h2, h3]
        rw [e]
        clear e
        go_enter Try.func13, Try.ntmps13
        go_wp2
        go_ret
        exact ⟨rfl, hb⟩
      · by_cases h4 : 256 < L
        · have e : fewB n m L = true := by simp [fewB, h1, h2, h4]
          rw [e]
          clear e
          go_enter Try.func13, Try.ntmps13
          go_wp2
          go_ret
          exact ⟨rfl, hb⟩
        · have e : fewB n m L = false := by simp [fewB, h3, h4]
          rw [e]
          clear e
          go_enter Try.func13, Try.ntmps13
          go_wp2
          go_ret
          exact ⟨rfl, hb⟩
    · have e : fewB n m L = false := by simp only [fewB, h2]; simp
      rw [e]
      clear e
      go_enter Try.func13, Try.ntmps13
      go_wp2
      go_ret
      exact ⟨rfl, hb⟩
  · have e : fewB n m L = false := by simp only [fewB, h1]; simp
    rw [e]
    clear e
    go_enter Try.func13, Try.ntmps13
    go_wp2
    go_ret
    exact ⟨rfl, hb⟩
end Go.Proofs.Ytfgelncfmopibaa
