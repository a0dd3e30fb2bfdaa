/-
  Lists of ints and tables held against each other.
-/
import Derived.Test.YtfgelncfmopibaaSnTabP
namespace Go.Proofs.Ytfgelncfmopibaa
open Go.RowKit
set_option linter.unusedSimpArgs false in
set_option maxHeartbeats 4000000 in
theorem equalI_yes (p q : Option Addr) (n c d : Nat) (l : List Int) (w : World) (hp : InI w p n c l) (hq : InI w q n d l) :
    Calls Try.prog 26 #[.slice p n c, .slice q n d] w fun e w' => e = .returned (.bool true) ∧ Below w.heap.size w w' := by
  have hroom := hp.room
  go_enter Try.func26, Try.ntmps26
  go_wp2
  go_loopw [13] (fun i wr => ∃ k : Nat, k ≤ n ∧ i = .int .i64 k ∧ Below w.heap.size w wr) (fun i _ => n - (intOf i).toNat)
  case atStart => exact ⟨0, Nat.zero_le _, rfl, Below.refl _ _⟩
  case round =>
    obtain ⟨k, hk, rfl, hbk⟩ := hrel
    by_cases hlt : k < n
    · obtain ⟨b, o, rfl, _, hc⟩ := (hp.below hbk).at' (by omega)
      obtain ⟨b', o', rfl, _, hd⟩ := (hq.below hbk).at' (by omega)
      have e0 := hc k hlt
      have d0 := hd k hlt
      have hki : (k : Int) < (n : Int) := by omega
      generalize eI l k = R at *
      clear hc hd
      go_wp2_with fail
      go_quiet (fail)
      go_wp2
      go_roundw
      case rel => exact ⟨k + 1, by omega, by go_num, ⟨hbk.os, hbk.tape, hbk.output, hbk.size, hbk.block⟩⟩
      case measure => simp [intOf]; omega
    · obtain rfl : k = n := by omega
      go_wp2
      go_ret
      exact ⟨rfl, hbk⟩
set_option linter.unusedSimpArgs false in
set_option maxHeartbeats 4000000 in
theorem sameInts_yes (p q : Option Addr) (n c d : Nat) (l : List Int) (w : World) (hp : InI w p n c l) (hq : InI w q n d l) :
    Calls Try.prog 54 #[.slice p n c, .slice q n d] w fun e w' => e = .returned (.bool true) ∧ Below w.heap.size w w' := by
  have hroom := hp.room
  go_enter Try.func54, Try.ntmps54
  go_wp2
  go_loopw [5] (fun i wr => ∃ k : Nat, k ≤ n ∧ i = .int .i64 k ∧ Below w.heap.size w wr) (fun i _ => n - (intOf i).toNat)
  case atStart => exact ⟨0, Nat.zero_le _, rfl, Below.refl _ _⟩
  case round =>
    obtain ⟨k, hk, rfl, hbk⟩ := hrel
    by_cases hlt : k < n
    · obtain ⟨b, o, rfl, _, hc⟩ := (hp.below hbk).at' (by omega)
      obtain ⟨b', o', rfl, _, hd⟩ := (hq.below hbk).at' (by omega)
      have e0 := hc k hlt
      have d0 := hd k hlt
      have hki : (k : Int) < (n : Int) := by omega
      generalize eI l k = R at *
      clear hc hd
      go_wp2_with fail
      go_quiet (fail)
      go_wp2
      go_roundw
      case rel => exact ⟨k + 1, by omega, by go_num, ⟨hbk.os, hbk.tape, hbk.output, hbk.size, hbk.block⟩⟩
      case measure => simp [intOf]; omega
    · obtain rfl : k = n := by omega
      go_wp2
      go_ret
      exact ⟨rfl, hbk⟩

set_option linter.unusedSimpArgs false in
set_option maxRecDepth 100000 in
set_option maxHeartbeats 8000000 in
theorem same_yes (P L K sp sl su : Int) (pd pd' ph ph' pl pl' : Option Addr) (nd cd cd' nh ch ch' cl cl' : Nat) (D : List Int) (H : List Bool) (w : World) (hd : InI w pd nd cd D) (hd' : InI w pd' nd cd' D) (hh : InB w ph nh ch H) (hh' : InB w ph' nh ch' H) :
    Calls Try.prog 25 #[.agg #[.int .i64 P, .int .i64 L, .int .i64 K, .slice pd nd cd, .slice ph nh ch, .int .i64 sp, .int .i64 sl, .int .i64 su, .slice pl 0 cl], .agg #[.int .i64 P, .int .i64 L, .int .i64 K, .slice pd' nd cd', .slice ph' nh ch', .int .i64 sp, .int .i64 sl, .int .i64 su, .slice pl' 0 cl']] w fun e w' => e = .returned (.bool true) ∧ Below w.heap.size w w' := by
  have hroom := hd.room
  have hroom2 := hh.room
  have g1 := (Blk.new' w 56 #[.int .i64 P, .int .i64 L, .int .i64 K, .slice pd nd cd, .slice ph nh ch, .int .i64 sp, .int .i64 sl, .int .i64 su, .slice pl 0 cl]).alloc (.cells #[.int .i64 P, .int .i64 L, .int .i64 K, .slice pd' nd cd', .slice ph' nh ch', .int .i64 sp, .int .i64 sl, .int .i64 su, .slice pl' 0 cl'] 56)
  have g2 := Blk.new' (w.alloc (.cells #[.int .i64 P, .int .i64 L, .int .i64 K, .slice pd nd cd, .slice ph nh ch, .int .i64 sp, .int .i64 sl, .int .i64 su, .slice pl 0 cl] 56)) 56 #[.int .i64 P, .int .i64 L, .int .i64 K, .slice pd' nd cd', .slice ph' nh ch', .int .i64 sp, .int .i64 sl, .int .i64 su, .slice pl' 0 cl']
  rw [World.size_alloc] at g2
  have hb0 := bt (below_alloc w (.cells #[.int .i64 P, .int .i64 L, .int .i64 K, .slice pd nd cd, .slice ph nh ch, .int .i64 sp, .int .i64 sl, .int .i64 su, .slice pl 0 cl] 56)) (below_alloc _ (.cells #[.int .i64 P, .int .i64 L, .int .i64 K, .slice pd' nd cd', .slice ph' nh ch', .int .i64 sp, .int .i64 sl, .int .i64 su, .slice pl' 0 cl'] 56))
  go_enter Try.func25, Try.ntmps25
  go_upto_region 1 with (fail)
  generalize (w.alloc (.cells #[.int .i64 P, .int .i64 L, .int .i64 K, .slice pd nd cd, .slice ph nh ch, .int .i64 sp, .int .i64 sl, .int .i64 su, .slice pl 0 cl] 56)).alloc (.cells #[.int .i64 P, .int .i64 L, .int .i64 K, .slice pd' nd cd', .slice ph' nh ch', .int .i64 sp, .int .i64 sl, .int .i64 su, .slice pl' 0 cl'] 56) = W0 at *
  have ga := g1; have gb := g2
  have x0 := ga.cell' (i := 0) rfl; have y0 := gb.cell' (i := 0) rfl; have x1 := ga.cell' (i := 1) rfl; have y1 := gb.cell' (i := 1) rfl; have x2 := ga.cell' (i := 2) rfl; have y2 := gb.cell' (i := 2) rfl; have x3 := ga.cell' (i := 3) rfl; have y3 := gb.cell' (i := 3) rfl; have x4 := ga.cell' (i := 4) rfl; have y4 := gb.cell' (i := 4) rfl; have x5 := ga.cell' (i := 5) rfl; have y5 := gb.cell' (i := 5) rfl; have x6 := ga.cell' (i := 6) rfl; have y6 := gb.cell' (i := 6) rfl; have x7 := ga.cell' (i := 7) rfl; have y7 := gb.cell' (i := 7) rfl; have x8 := ga.cell' (i := 8) rfl; have y8 := gb.cell' (i := 8) rfl
  have hdI := hd.below hb0
  have hdJ := hd'.below hb0
  go_upto_region 3 with (go_at_call 54; refine (sameInts_yes _ _ _ _ _ _ _ hdI hdJ).mono ?_; rintro e w1 ⟨rfl, hb1⟩; replace ga := ga.kept hb1; replace gb := gb.kept hb1; replace hb0 := bt hb0 hb1; clear hb1 x0 x1 x2 x3 x4 x5 x6 x7 x8 y0 y1 y2 y3 y4 y5 y6 y7 y8; have x0 := ga.cell' (i := 0) rfl; have y0 := gb.cell' (i := 0) rfl; have x1 := ga.cell' (i := 1) rfl; have y1 := gb.cell' (i := 1) rfl; have x2 := ga.cell' (i := 2) rfl; have y2 := gb.cell' (i := 2) rfl; have x3 := ga.cell' (i := 3) rfl; have y3 := gb.cell' (i := 3) rfl; have x4 := ga.cell' (i := 4) rfl; have y4 := gb.cell' (i := 4) rfl; have x5 := ga.cell' (i := 5) rfl; have y5 := gb.cell' (i := 5) rfl; have x6 := ga.cell' (i := 6) rfl; have y6 := gb.cell' (i := 6) rfl; have x7 := ga.cell' (i := 7) rfl; have y7 := gb.cell' (i := 7) rfl; have x8 := ga.cell' (i := 8) rfl; have y8 := gb.cell' (i := 8) rfl)
  clear hdI hdJ g1 g2 x0 x1 x2 x3 x4 x5 x6 x7 x8 y0 y1 y2 y3 y4 y5 y6 y7 y8
  go_wp2
  go_loopw [5] (fun i wr => ∃ k : Nat, k ≤ nh ∧ i = .int .i64 k ∧ Blk wr w.heap.size 56 [.int .i64 P, .int .i64 L, .int .i64 K, .slice pd nd cd, .slice ph nh ch, .int .i64 sp, .int .i64 sl, .int .i64 su, .slice pl 0 cl] ∧ Blk wr (w.heap.size + 1) 56 [.int .i64 P, .int .i64 L, .int .i64 K, .slice pd' nd cd', .slice ph' nh ch', .int .i64 sp, .int .i64 sl, .int .i64 su, .slice pl' 0 cl'] ∧ Below w.heap.size w wr) (fun i _ => nh - (intOf i).toNat)
  case atStart => exact ⟨0, Nat.zero_le _, rfl, ga, gb, hb0⟩
  case round =>
    obtain ⟨k, hk, rfl, ka, kb, hbk⟩ := hrel
    clear ga gb hb0
    have x4 := ka.cell' (i := 4) rfl
    have y4 := kb.cell' (i := 4) rfl
    by_cases hlt : k < nh
    · obtain ⟨b, o, rfl, _, hc⟩ := (hh.below hbk).at' (by omega)
      obtain ⟨b', o', rfl, _, hd⟩ := (hh'.below hbk).at' (by omega)
      have e0 := hc k hlt
      have d0 := hd k hlt
      have hki : (k : Int) < (nh : Int) := by omega
      generalize eB H k = R at *
      clear hc hd
      go_wp2_with fail
      go_quiet (fail)
      go_wp2
      go_roundw
      case rel => exact ⟨k + 1, by omega, by go_num, ka.drew, kb.drew, ⟨hbk.os, hbk.tape, hbk.output, hbk.size, hbk.block⟩⟩
      case measure => simp [intOf]; omega
    · obtain rfl : nh = k := by omega
      have x8 := ka.cell' (i := 8) rfl
      go_wp2
      go_loopw [6] (fun i wr => i = .int .i64 0 ∧ Blk wr w.heap.size 56 [.int .i64 P, .int .i64 L, .int .i64 K, .slice pd nd cd, .slice ph nh ch, .int .i64 sp, .int .i64 sl, .int .i64 su, .slice pl 0 cl] ∧ Below w.heap.size w wr) (fun _ _ => 0)
      case atStart => exact ⟨rfl, ka, hbk⟩
      case round =>
        obtain ⟨rfl, ja, hbj⟩ := hrel
        have z8 := ja.cell' (i := 8) rfl
        go_wp2
        go_ret
        exact ⟨rfl, hbj⟩
end Go.Proofs.Ytfgelncfmopibaa
