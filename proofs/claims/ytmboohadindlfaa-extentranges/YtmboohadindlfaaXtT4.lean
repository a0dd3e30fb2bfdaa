/-
  The reference's Runs.
-/
import Derived.Test.YtmboohadindlfaaXtT3
namespace Go.Proofs.Ytmboohadindlfaa
open Go.RowKit
set_option linter.unusedSimpArgs false in
set_option linter.unusedVariables false in
set_option maxRecDepth 100000 in
set_option maxHeartbeats 4000000 in
theorem rRuns_any (p : Option Addr) (n c : Nat) (l : List Ext) (f u : Int) (w : World) (h : InE w p n c l) (hn : n ≤ 100000) :
    Calls Try.prog 22 #[.slice p n c, .int .i64 f, .int .i64 u] w fun e w' => ∃ p2 n2 c2, e = .returned (.slice p2 n2 c2) ∧ InE w' p2 n2 c2 (runsL f u (takenL l)) ∧ n2 ≤ n ∧ Below w.heap.size w w' := by
  obtain ⟨i0, hi, hz0, hz1, hz2⟩ := info_parts infoE
  go_enter Try.func22, Try.ntmps22
  go_wp2_with fail
  refine (may_any p n c l w h).mono ?_
  rintro e9 w1 ⟨p1, n1, c1, rfl, hin, hn1, hb1⟩
  have HT1 : Hid (∀ e ∈ takenL l, oneB e = true) := taken_one l
  have HL : Hid ((takenL l).length = n1) := hin.len
  obtain ⟨t, ht⟩ : ∃ t, takenL l = t := ⟨_, rfl⟩
  rw [ht] at HT1 HL hin
  have HTT : Hid (takenL l = t) := ht
  clear ht
  have hn2 : n1 ≤ 100000 := by omega
  go_wp2
  go_loopw [7, 8] (fun v i wr => ∃ (k : Nat), k ≤ n1 ∧ i = .int .i64 k ∧ wr.ownsRow w1.heap.size 31 3 v (runsL f u (t.take k)).length (flatE (runsL f u (t.take k))) ∧ Below w1.heap.size w1 wr) (fun _ i _ => n1 - (intOf i).toNat)
  case atStart => exact ⟨0, Nat.zero_le _, rfl, World.ownsRow_nil _ _ _ _, Below.refl _ _⟩
  case round =>
    obtain ⟨k, hk, rfl, ho, hb⟩ := hrel
    have hrl := runsL_len f u (t.take k)
    rw [List.length_take] at hrl
    by_cases hlt : k < n1
    · have hki : (k : Int) < (n1 : Int) := by omega
      obtain ⟨b, o, hpe, hbl, hc⟩ := (hin.below hb).at' (by omega)
      subst hpe
      have hks : k < t.length := by rw [HL.out]; exact hlt
      obtain ⟨e0, e1, e2⟩ := hc k hlt
      have HU : Hid (t.take (k + 1) = t.take k ++ [eE t k]) := takeE_succ t k hks
      have HO : Hid (oneB (eE t k) = true) := HT1.out _ (eE_mem hks)
      clear hc hbl
      generalize eE t k = e at *
      obtain ⟨pv, cv, rfl⟩ := owns_slice ho
      have HRL : Hid (runsL f u (t.take k) = runsL f u (t.take k)) := rfl
      have hs := hb.size
      cases hp : partB f u e with
      | true =>
        have HX : Hid (runsL f u (t.take (k + 1)) = runsL f u (t.take k) ++ [partE f u e]) := by show _ = _; rw [HU.out, runsL_snoc_yes hp]
        have hr := fun W => rpart_any e f u W HO.out
        simp only [hp] at hr
        generalize partE f u e = y at *
        generalize runsL f u (t.take k) = rl at *
        obtain ⟨N, hN⟩ : ∃ N, rl.length = N := ⟨_, rfl⟩
        rw [hN] at ho hrl
        rw [hN]
        have HN : Hid (rl.length = N) := hN
        clear hp hN
        go_wp2_with fail
        refine (hr _).mono ?_
        rintro e9 wa ⟨rfl, hb9⟩
        have hbb := bt hb9 (below_alloc _ (.cells #[.int .i64 y.lo, .int .i64 y.ln, .int .i64 y.ph] 31))
        have ho2 := owns_below ho hbb
        have hbw2 := hb.trans (hbb.mono hb.size)
        have kb := Blk.new' wa 31 #[.int .i64 y.lo, .int .i64 y.ln, .int .i64 y.ph]
        clear hr hb9 hbb ho
        go_upto_region 8 with fail
        generalize World.alloc wa _ = wc at *
        have zz0 := kb.cell' (i := 0) rfl
        have zz1 := kb.cell' (i := 1) rfl
        have zz2 := kb.cell' (i := 2) rfl
        have hs2 := hbw2.size
        go_wp2_with (at_builtin; refine wpList_append_own _ rfl (.tmp 30) (.tmp 32) 22 rfl w1.heap.size 31 i0 (.agg #[.int .i64 0, .int .i64 0, .int .i64 0]) 3 24 Try.underlying22 hi hz0 hz1 hz2 rfl (by decide) _ N _ rfl (ho2.alloc _) ⟨_, 0, none⟩ 1 1 [.int .i64 y.lo, .int .i64 y.ln, .int .i64 y.ph] rfl rfl (new_three _ _ _ _) (by simp [Value.oneCell']) (by unfold maxLen; omega) (by omega) (by simp; omega) ?_; intro v1 w5 hown5 hgrow5 _)
        have hb5 := below_appP hbw2 (Nat.le_refl _) ho2 hgrow5
        rw [flatE_snoc] at hown5
        go_roundw
        case rel => exact ⟨k + 1, by omega, by go_num, by rw [HX.out, List.length_append, HN.out]; exact hown5, hb5⟩
        case measure => simp [intOf]; omega
      | false =>
        have HX : Hid (runsL f u (t.take (k + 1)) = runsL f u (t.take k)) := by show _ = _; rw [HU.out, runsL_snoc_no hp]
        have hr := fun W => rpart_any e f u W HO.out
        simp only [partE_no hp, hp] at hr
        generalize runsL f u (t.take k) = rl at *
        obtain ⟨N, hN⟩ : ∃ N, rl.length = N := ⟨_, rfl⟩
        rw [hN] at ho hrl
        rw [hN]
        have HN : Hid (rl.length = N) := hN
        clear hp hN
        go_wp2_with fail
        refine (hr _).mono ?_
        rintro e9 wa ⟨rfl, hb9⟩
        have hbb := bt hb9 (below_alloc _ (.cells #[.int .i64 0, .int .i64 0, .int .i64 0] 31))
        have ho2 := owns_below ho hbb
        have hbw2 := hb.trans (hbb.mono hb.size)
        clear hr hb9 hbb ho
        go_wp2
        go_roundw
        case rel => exact ⟨k + 1, by omega, by go_num, by rw [HX.out, HN.out]; exact ho2, hbw2⟩
        case measure => simp [intOf]; omega
    · obtain rfl : k = n1 := by omega
      have hkn : ¬ (k : Int) < (k : Int) := by omega
      have HF : Hid (t.take k = t) := List.take_of_length_le (by rw [HL.out]; exact Nat.le_refl _)
      rw [HF.out] at ho hrl
      have hlt : (runsL f u t).length ≤ k := by omega
      obtain ⟨p', c', rfl, hin'⟩ := in_of_ownsE ho (by omega)
      go_wp2
      go_ret
      exact ⟨_, _, _, rfl, by rw [HTT.out]; exact hin', by omega, hb1.trans (hb.mono hb1.size)⟩
end Go.Proofs.Ytmboohadindlfaa
