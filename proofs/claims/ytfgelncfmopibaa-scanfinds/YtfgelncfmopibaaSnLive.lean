/-
  SamePlaces of the same places; live.
-/
import Derived.Test.YtfgelncfmopibaaSnGreat
namespace Go.Proofs.Ytfgelncfmopibaa
open Go.RowKit
set_option maxHeartbeats 2000000 in
theorem samePlaces_yes (p q : Option Addr) (n c d : Nat) (l : List Pl) (w : World) (hp : InZ w p n c l) (hq : InZ w q n d l) :
    Calls Try.prog 14 #[.slice p n c, .slice q n d] w fun e w' => e = .returned (.bool true) ∧ Below w.heap.size w w' := by
  have hroom := hp.room
  go_enter Try.func14, Try.ntmps14
  go_wp2
  go_loopw [5] (fun i wr => ∃ k : Nat, k ≤ n ∧ i = .int .i64 k ∧ Below w.heap.size w wr) (fun i _ => n - (intOf i).toNat)
  case atStart => exact ⟨0, Nat.zero_le _, rfl, Below.refl _ _⟩
  case round =>
    obtain ⟨k, hk, rfl, hbk⟩ := hrel
    by_cases hlt : k < n
    · obtain ⟨b, o, rfl, _, hc⟩ := (hp.below hbk).at' (by omega)
      obtain ⟨b', o', rfl, _, hd⟩ := (hq.below hbk).at' (by omega)
      obtain ⟨e0, e1⟩ := hc k hlt
      obtain ⟨d0, d1⟩ := hd k hlt
      have hki : (k : Int) < (n : Int) := by omega
      generalize eZ l k = R at *
      obtain ⟨rh, rg⟩ := R
      dsimp only at e0 e1 d0 d1
      clear hc hd
      go_wp2_with fail
      go_quiet (fail)
      go_wp2
      go_roundw
      case rel => exact ⟨k + 1, by omega, by go_num, ⟨hbk.os, hbk.tape, hbk.output, hbk.size, hbk.block⟩⟩
      case measure => simp [intOf]; omega
    · obtain rfl : k = n := by omega
      go_wp2
      go_ret
      exact ⟨rfl, hbk⟩
theorem live_list : placesOf (newestL 4 8 [⟨7, 1, 1, 5, 3, 3⟩, ⟨9, 0, 2, 5, 4, 4⟩]) = [⟨-1, 0⟩, ⟨-1, 0⟩, ⟨-1, 0⟩, ⟨-1, 0⟩, ⟨-1, 0⟩, ⟨9, 0⟩, ⟨-1, 0⟩, ⟨-1, 0⟩] := by rfl
theorem live_great : greatL [⟨7, 1, 1, 5, 3, 3⟩, ⟨9, 0, 2, 5, 4, 4⟩] = 4 := by rfl
theorem inF_of_blk {w : World} {g : Nat} {l : List Fd} (h : Blk w g 33 (flatF l)) (hl : l.length ≤ 1000000) : InF w (some ⟨g, 0, none⟩) l.length l.length l := by
  refine ⟨rfl, Nat.le_refl _, by unfold maxLen; omega, by omega, fun _ => ⟨g, 0, rfl, h.lt, fun i hi => ?_⟩, fun h => by cases h⟩
  obtain ⟨f0, f1, f2, f3, f4, f5⟩ := flatF_at (l := l) (k := i) hi
  rw [Nat.zero_add]
  exact ⟨h.cell' f0, h.cell' f1, h.cell' f2, h.cell' f3, h.cell' f4, h.cell' f5⟩
theorem inZ_of_blk {w : World} {g : Nat} {l : List Pl} (h : Blk w g 29 (flatZ l)) (hl : l.length ≤ 1000000) : InZ w (some ⟨g, 0, none⟩) l.length l.length l := by
  refine ⟨rfl, Nat.le_refl _, by unfold maxLen; omega, by omega, fun _ => ⟨g, 0, rfl, h.lt, fun i hi => ?_⟩, fun h => by cases h⟩
  obtain ⟨f0, f1⟩ := flatZ_at (l := l) (k := i) hi
  rw [Nat.zero_add]
  exact ⟨h.cell' f0, h.cell' f1⟩
set_option maxHeartbeats 4000000 in
theorem live_any (w : World) : Calls Try.prog 9 #[] w fun e w' => e = .returned (.bool true) ∧ Below w.heap.size w w' := by
  have b0 : Blk (w.alloc (.cells #[.int .i64 7, .int .i64 1, .int .i64 1, .int .i64 5, .int .i64 3, .int .i64 3, .int .i64 9, .int .i64 0, .int .i64 2, .int .i64 5, .int .i64 4, .int .i64 4] 33)) w.heap.size 33 (flatF [⟨7, 1, 1, 5, 3, 3⟩, ⟨9, 0, 2, 5, 4, 4⟩]) := Blk.new' w _ _
  have hb0 := below_alloc w (.cells #[.int .i64 7, .int .i64 1, .int .i64 1, .int .i64 5, .int .i64 3, .int .i64 3, .int .i64 9, .int .i64 0, .int .i64 2, .int .i64 5, .int .i64 4, .int .i64 4] 33)
  have i0 := inF_of_blk b0 (by simp)
  dsimp only [List.length_cons, List.length_nil] at i0
  go_enter Try.func9, Try.ntmps9
  go_wp2_with (first
    | (go_at_call 15; refine (newest_any 4 2 8 _ 2 2 _ _ rfl rfl i0).mono ?_; rintro e w1 ⟨g, rfl, hg, hG, hb1⟩; rw [live_list] at hG; have i1 := i0.below hb1; have c10 := hG.cell' (i := 10) rfl; have c11 := hG.cell' (i := 11) rfl; have c0 := hG.cell' (i := 0) rfl; have c1 := hG.cell' (i := 1) rfl)
    | (go_at_call 17; refine (greatest_any _ 2 2 _ _ i1).mono ?_; rw [live_great]; rintro e w2 ⟨rfl, hb2⟩))
  go_ret
  exact ⟨rfl, bt (bt hb0 hb1) hb2⟩
end Go.Proofs.Ytfgelncfmopibaa
