/-
  The reference's Check of any table: it ends, and where it takes a table, what is so.
-/
import Derived.Test.YtfgelncfmopibabSnRChL
namespace Go.Proofs.Ytfgelncfmopibab
open Go.RowKit
/-- What is so of a table that the reference takes. -/
structure Good (P0 L0 K sp sl su : Int) (D : List Int) (H : List Bool) (logs : List LogS) : Prop where
  ok : okSz P0 L0 K = true
  dl : (D.length : Int) = L0
  hl : (H.length : Int) = L0 * P0
  lo : ∀ i, i < D.length → -1 ≤ eI D i
  hv : ∀ j, j < H.length → eB H j = true → 0 ≤ eI D (j / P0.toNat)
  sq : sp < 0 → sp = -1 ∧ sl = 0 ∧ su = 0
  nd : (usesL D sp logs).Nodup
  lt : ∀ i, i < (usesL D sp logs).length → eI (usesL D sp logs) i < 256
def RetI (Q : Prop) (e : Ending) : Prop := ∃ x : Int, e = .returned (.int .i64 x) ∧ (x = 0 → Q)
theorem retNo {Q : Prop} {e : Ending} (h : e = .returned (.int .i64 50)) : RetI Q e := ⟨50, h, fun h => by omega⟩
theorem retYes {Q : Prop} {e : Ending} (h : e = .returned (.int .i64 0)) (hq : Q) : RetI Q e := ⟨0, h, fun _ => hq⟩
theorem upto_step {Q : Nat → Prop} {k : Nat} (h : ∀ i, i < k → Q i) (hk : Q k) : ∀ i, i < k + 1 → Q i := fun i hi => by
  by_cases e : i = k
  · subst e; exact hk
  · exact h i (by omega)
theorem nodup_step {U : List Int} {k : Nat} (hk : k < U.length) (h : (U.take k).Nodup) (hm : eI U k ∉ U.take k) : (U.take (k + 1)).Nodup := by
  rw [takeI_succ U k hk, List.nodup_append]
  refine ⟨h, by simp, fun a ha b hb e => ?_⟩
  rw [List.mem_singleton] at hb
  subst e hb
  exact hm ha
set_option linter.unusedSimpArgs false in
set_option maxRecDepth 100000 in
set_option maxHeartbeats 8000000 in
theorem checkG_sz (P0 L0 K sp sl su : Int) (pd ph pl : Option Addr) (nd cd nh ch nl cl : Nat) (Q : Prop) (w : World) (hok : okSz P0 L0 K = false) :
    Calls Try.prog 10 #[.agg #[.int .i64 P0, .int .i64 L0, .int .i64 K, .slice pd nd cd, .slice ph nh ch, .int .i64 sp, .int .i64 sl, .int .i64 su, .slice pl nl cl]] w fun e w' => RetI Q e ∧ Below w.heap.size w w' := by
  have hnew := fun w => r05new_no P0 L0 K w hok
  clear hok
  have g0 := Blk.new' w 35 #[.int .i64 P0, .int .i64 L0, .int .i64 K, .slice pd nd cd, .slice ph nh ch, .int .i64 sp, .int .i64 sl, .int .i64 su, .slice pl nl cl]
  have hb0 := below_alloc w (.cells #[.int .i64 P0, .int .i64 L0, .int .i64 K, .slice pd nd cd, .slice ph nh ch, .int .i64 sp, .int .i64 sl, .int .i64 su, .slice pl nl cl] 35)
  go_enter Try.func10, Try.ntmps10
  go_upto_region 1 with (fail)
  generalize w.alloc (.cells #[.int .i64 P0, .int .i64 L0, .int .i64 K, .slice pd nd cd, .slice ph nh ch, .int .i64 sp, .int .i64 sl, .int .i64 su, .slice pl nl cl] 35) = W0 at *
  have ga := g0
  have x0 := ga.cell' (i := 0) rfl; have x1 := ga.cell' (i := 1) rfl; have x2 := ga.cell' (i := 2) rfl; have x3 := ga.cell' (i := 3) rfl; have x4 := ga.cell' (i := 4) rfl; have x5 := ga.cell' (i := 5) rfl; have x6 := ga.cell' (i := 6) rfl; have x7 := ga.cell' (i := 7) rfl; have x8 := ga.cell' (i := 8) rfl
  go_upto_region 2 with (first | (go_at_call 25; refine (hnew _).mono ?_; rintro e w1 ⟨rfl, hb1⟩; replace hb0 := bt hb0 hb1; clear hb1) | (refine wpList_store_blk rfl 35 (.tmp 3) (.tmp 18) rfl w1.heap.size 0 [.int .i64 0, .int .i64 0, .int .i64 0, .slice none 0 0, .slice none 0 0, .int .i64 0, .int .i64 0, .int .i64 0, .slice none 0 0] rfl rfl (Blk.new' w1 35 #[.int .i64 0, .int .i64 0, .int .i64 0, .slice none 0 0, .slice none 0 0, .int .i64 0, .int .i64 0, .int .i64 0, .slice none 0 0]) (by exact Nat.le_refl _) (by show _ = some 9; kernel_rfl) (by simp [Value.oneCell']) ?_; intro W4 h4 ht4; clear h4; have k4 : Below w1.heap.size w1 W4 := ht4.below (below_alloc w1 _) (Nat.le_refl _); clear ht4; replace hb0 := bt hb0 k4))
  clear x0 x1 x2 x3 x4 x5 x6 x7 x8 ga hnew g0
  go_wp2
  go_ret
  exact ⟨retNo rfl, hb0⟩
set_option linter.unusedSimpArgs false in
set_option maxRecDepth 100000 in
set_option maxHeartbeats 8000000 in
theorem checkG_ok (P L : Nat) (K sp sl su : Int) (pd ph pl : Option Addr) (nd cd nh ch nl cl : Nat) (n : Nat) (D : List Int) (H : List Bool) (logs : List LogS) (w : World) (hd : InI w pd nd cd D) (hh : InB w ph nh ch H) (hlg : LogsIn w pl nl cl logs) (hok : okSz (P : Int) (L : Int) K = true) (HM : Hid (n = L * P)) :
    Calls Try.prog 10 #[.agg #[.int .i64 (P : Int), .int .i64 (L : Int), .int .i64 K, .slice pd nd cd, .slice ph nh ch, .int .i64 sp, .int .i64 sl, .int .i64 su, .slice pl nl cl]] w fun e w' => RetI (Good (P : Int) (L : Int) K sp sl su D H logs) e ∧ Below w.heap.size w w' := by
  have hLP : (L : Int) * (P : Int) = (n : Int) := by rw [HM.out]; exact (Int.natCast_mul L P).symm
  have hPL : (P : Int) * (L : Int) = (n : Int) := by rw [Int.mul_comm]; exact hLP
  have hnew := fun w => r05new_ok (P : Int) L K n w hok hLP
  have HOK : Hid (okSz (P : Int) (L : Int) K = true) := hok
  obtain ⟨⟨r1, r2⟩, ⟨r3, r4⟩, ⟨r5, r6⟩⟩ := okSz_iff.1 hok
  have hnb := prod_bd ⟨r3, r4⟩ ⟨r1, r2⟩
  have hn1 : n ≤ 8192 := by omega
  have hnI : (n : Int) ≤ 8192 := by omega
  have hdr := hd.room
  have hhr := hh.room
  have hlr := hlg.room
  clear hok hnb
  have g0 := Blk.new' w 35 #[.int .i64 (P : Int), .int .i64 (L : Int), .int .i64 K, .slice pd nd cd, .slice ph nh ch, .int .i64 sp, .int .i64 sl, .int .i64 su, .slice pl nl cl]
  have hb0 := below_alloc w (.cells #[.int .i64 (P : Int), .int .i64 (L : Int), .int .i64 K, .slice pd nd cd, .slice ph nh ch, .int .i64 sp, .int .i64 sl, .int .i64 su, .slice pl nl cl] 35)
  obtain ⟨Z, HZ⟩ : ∃ Z : List Bool, Hid (List.replicate 256 false = Z) := ⟨_, rfl⟩
  have hmk : ∀ W : World, (Instr.makeSlice 30 (.int .i64 256) (.int .i64 256)).run Try.prog W = .ok (.slice (some ⟨W.heap.size, 0, none⟩) 256 256) (W.alloc (.cells (valsB Z).toArray 4)) := fun W => HZ.out ▸ make_bools 256 (by omega) W
  go_enter Try.func10, Try.ntmps10
  go_upto_region 1 with (fail)
  generalize w.alloc (.cells #[.int .i64 (P : Int), .int .i64 (L : Int), .int .i64 K, .slice pd nd cd, .slice ph nh ch, .int .i64 sp, .int .i64 sl, .int .i64 su, .slice pl nl cl] 35) = W0 at *
  have ga := g0
  have x0 := ga.cell' (i := 0) rfl; have x1 := ga.cell' (i := 1) rfl; have x2 := ga.cell' (i := 2) rfl; have x3 := ga.cell' (i := 3) rfl; have x4 := ga.cell' (i := 4) rfl; have x5 := ga.cell' (i := 5) rfl; have x6 := ga.cell' (i := 6) rfl; have x7 := ga.cell' (i := 7) rfl; have x8 := ga.cell' (i := 8) rfl
  go_upto_region 2 with (first | (go_at_call 25; refine (hnew _).mono ?_; rintro e w1 ⟨V, rfl, -, -, -, -, hb1⟩; replace ga := ga.kept hb1; replace hb0 := bt hb0 hb1; clear hb1 x0 x1 x2 x3 x4 x5 x6 x7 x8; have x0 := ga.cell' (i := 0) rfl; have x1 := ga.cell' (i := 1) rfl; have x2 := ga.cell' (i := 2) rfl; have x3 := ga.cell' (i := 3) rfl; have x4 := ga.cell' (i := 4) rfl; have x5 := ga.cell' (i := 5) rfl; have x6 := ga.cell' (i := 6) rfl; have x7 := ga.cell' (i := 7) rfl; have x8 := ga.cell' (i := 8) rfl) | (refine wpList_store_blk rfl 35 (.tmp 3) (.tmp 18) rfl w1.heap.size 0 (tabC V (newT (P : Int) L K n)) rfl rfl (Blk.new' w1 35 #[.int .i64 0, .int .i64 0, .int .i64 0, .slice none 0 0, .slice none 0 0, .int .i64 0, .int .i64 0, .int .i64 0, .slice none 0 0]) (by exact Nat.le_refl _) (tabSize _ _) (tabOne _ _) ?_; intro W4 h4 ht4; clear h4; have k4 : Below w1.heap.size w1 W4 := ht4.below (below_alloc w1 _) (Nat.le_refl _); clear ht4; replace ga := ga.kept k4; replace hb0 := bt hb0 k4; clear k4 x0 x1 x2 x3 x4 x5 x6 x7 x8; have x0 := ga.cell' (i := 0) rfl; have x1 := ga.cell' (i := 1) rfl; have x2 := ga.cell' (i := 2) rfl; have x3 := ga.cell' (i := 3) rfl; have x4 := ga.cell' (i := 4) rfl; have x5 := ga.cell' (i := 5) rfl; have x6 := ga.cell' (i := 6) rfl; have x7 := ga.cell' (i := 7) rfl; have x8 := ga.cell' (i := 8) rfl))
  clear g0 hnew
  by_cases q1 : ¬ (nd : Int) = (L : Int)
  · have q1c : ((nd : Int) == (L : Int)) = false := by rw [beq_eq_false_iff_ne]; exact q1
    go_wp2
    go_ret
    exact ⟨retNo rfl, hb0⟩
  obtain rfl : L = nd := by omega
  clear q1
  by_cases q2 : ¬ (nh : Int) = (n : Int)
  · have q2c : ((nh : Int) == (n : Int)) = false := by rw [beq_eq_false_iff_ne]; exact q2
    go_wp2
    go_ret
    exact ⟨retNo rfl, hb0⟩
  obtain rfl : n = nh := by omega
  clear q2
  go_upto_region 4 with (fail)
  clear x0 x1 x2 x3 x4 x5 x6 x7 x8
  go_wp2
  go_loopw [5] (fun i wr => ∃ k : Nat, k ≤ L ∧ i = .int .i64 k ∧ Hid (∀ i, i < k → -1 ≤ eI D i) ∧ Blk wr w.heap.size 35 [.int .i64 (P : Int), .int .i64 (L : Int), .int .i64 K, .slice pd L cd, .slice ph n ch, .int .i64 sp, .int .i64 sl, .int .i64 su, .slice pl nl cl] ∧ Below w.heap.size w wr) (fun i _ => L - (intOf i).toNat)
  case atStart => exact ⟨0, Nat.zero_le _, rfl, fun i hi => (by omega), ga, hb0⟩
  case round =>
    obtain ⟨k, hk, rfl, hlo, ja, hbk⟩ := hrel
    clear ga hb0
    have x3 := ja.cell' (i := 3) rfl
    by_cases hlt : k < L
    · have hki : (k : Int) < (L : Int) := by omega
      obtain ⟨b, o, rfl, hbl, hc⟩ := (hd.below hbk).at' (by omega)
      have e0 := hc k hlt
      obtain ⟨x, HX⟩ : ∃ x, Hid (eI D k = x) := ⟨_, rfl⟩
      rw [HX.out] at e0
      clear hc
      by_cases h1 : x < -1
      · go_wp2
        go_ret
        exact ⟨retNo rfl, hbk⟩
      · go_wp2
        go_roundw
        case rel => exact ⟨k + 1, by omega, by go_num, upto_step hlo.out (by rw [HX.out]; omega), ja, hbk⟩
        case measure => simp [intOf]; omega
    · obtain rfl : L = k := by omega
      go_wp2
      clear x3
      go_loopw [6] (fun i wr => ∃ k : Nat, k ≤ n ∧ i = .int .i64 k ∧ Hid (∀ j, j < k → eB H j = true → 0 ≤ eI D (j / P)) ∧ Blk wr w.heap.size 35 [.int .i64 (P : Int), .int .i64 (L : Int), .int .i64 K, .slice pd L cd, .slice ph n ch, .int .i64 sp, .int .i64 sl, .int .i64 su, .slice pl nl cl] ∧ Below w.heap.size w wr) (fun i _ => n - (intOf i).toNat)
      case atStart => exact ⟨0, Nat.zero_le _, rfl, fun i hi => (by omega), ja, hbk⟩
      case round =>
        obtain ⟨k, hk, rfl, hhv, jb, hbj⟩ := hrel
        clear ja hbk
        have x4 := jb.cell' (i := 4) rfl
        by_cases hlt : k < n
        · have hki : (k : Int) < (n : Int) := by omega
          obtain ⟨b, o, rfl, hbl, hc⟩ := (hh.below hbj).at' (by omega)
          have e0 := hc k hlt
          clear hc
          cases hb : eB H k with
          | false =>
            rw [hb] at e0
            have HB : Hid (eB H k = false) := hb
            clear hb
            go_upto_region 12 with (fail)
            go_quiet (fail)
            go_wp2
            go_roundw
            case rel => exact ⟨k + 1, by omega, by go_num, upto_step hhv.out (fun hv => by rw [HB.out] at hv; cases hv), jb.drew, ⟨hbj.os, hbj.tape, hbj.output, hbj.size, hbj.block⟩⟩
            case measure => simp [intOf]; omega
          | true =>
            rw [hb] at e0
            clear hb
            obtain ⟨m, HM2⟩ : ∃ m, Hid (m = k / P) := ⟨_, rfl⟩
            have hml : m < L := by rw [HM2.out]; exact (Nat.div_lt_iff_lt_mul (by omega)).2 (by rw [← HM.out]; exact hlt)
            have x0 := jb.cell' (i := 0) rfl
            have x3 := jb.cell' (i := 3) rfl
            obtain ⟨b2, o2, rfl, hbl2, hc2⟩ := (hd.below hbj).at' (by omega)
            have e2 := hc2 m hml
            obtain ⟨x, HX⟩ : ∃ x, Hid (eI D m = x) := ⟨_, rfl⟩
            rw [HX.out] at e2
            have hp0 : ¬ (P : Int) = 0 := by omega
            have hq : (k : Int) / (P : Int) = (m : Int) := by rw [HM2.out]; rfl
            have hq2 : (k : Int).tdiv (P : Int) = (m : Int) := by rw [HM2.out]; rfl
            have hmI : (m : Int) < (L : Int) := by omega
            have hmb : (m : Int) ≤ 8192 := by omega
            clear hc2
            by_cases h1 : x < 0
            · go_upto_region 12 with (fail)
              go_quiet (fail)
              go_wp2
              go_ret
              exact ⟨retNo rfl, ⟨hbj.os, hbj.tape, hbj.output, hbj.size, hbj.block⟩⟩
            · go_upto_region 12 with (fail)
              go_quiet (fail)
              go_wp2
              go_roundw
              case rel => exact ⟨k + 1, by omega, by go_num, upto_step hhv.out (fun _ => by rw [← HM2.out, HX.out]; omega), jb.drew, ⟨hbj.os, hbj.tape, hbj.output, hbj.size, hbj.block⟩⟩
              case measure => simp [intOf]; omega
        · obtain rfl : n = k := by omega
          have ga := jb
          have hb0 := hbj
          clear jb hbj x4
          have x0 := ga.cell' (i := 0) rfl; have x1 := ga.cell' (i := 1) rfl; have x2 := ga.cell' (i := 2) rfl; have x3 := ga.cell' (i := 3) rfl; have x4 := ga.cell' (i := 4) rfl; have x5 := ga.cell' (i := 5) rfl; have x6 := ga.cell' (i := 6) rfl; have x7 := ga.cell' (i := 7) rfl; have x8 := ga.cell' (i := 8) rfl
          have hsq := fun w => seqG P L K sp sl su pd ph pl L cd n ch nl cl w
          have hlo2 := fun w h => logsG P L K sp sl su pd ph pl L cd n ch nl cl n logs w h hPL hn1 (by omega) r6
          have hs5 := hb0.size
          go_wp2_with (go_at_call 26; refine (hsq _).mono ?_; rintro e w1 ⟨⟨b1, rfl, hq1⟩, hb1⟩; replace ga := ga.kept hb1; replace hb0 := bt hb0 hb1; clear hb1 x0 x1 x2 x3 x4 x5 x6 x7 x8 hsq; have x0 := ga.cell' (i := 0) rfl; have x1 := ga.cell' (i := 1) rfl; have x2 := ga.cell' (i := 2) rfl; have x3 := ga.cell' (i := 3) rfl; have x4 := ga.cell' (i := 4) rfl; have x5 := ga.cell' (i := 5) rfl; have x6 := ga.cell' (i := 6) rfl; have x7 := ga.cell' (i := 7) rfl; have x8 := ga.cell' (i := 8) rfl; cases b1)
          · go_ret
            exact ⟨retNo rfl, hb0⟩
          have hlis := fun (h8 : logs.length ≤ 8) w hd h => listG P L K sp sl su pd ph pl L cd n ch nl cl D logs w hd h (by omega) (by rw [← hlg.len]; exact h8)
          go_wp2_with (first | (go_at_call 27; refine (hlo2 _ (hlg.below hb0)).mono ?_; rintro e w2 ⟨⟨b2, rfl, hq2⟩, hb2⟩; replace ga := ga.kept hb2; replace hb0 := bt hb0 hb2; clear hb2 x0 x1 x2 x3 x4 x5 x6 x7 x8 hlo2; have gs := Blk.new w2 4 (valsB Z); replace ga := ga.alloc (.cells (valsB Z).toArray 4); have hbs := bt hb0 (below_alloc w2 (.cells (valsB Z).toArray 4)); have x0 := ga.cell' (i := 0) rfl; have x1 := ga.cell' (i := 1) rfl; have x2 := ga.cell' (i := 2) rfl; have x3 := ga.cell' (i := 3) rfl; have x4 := ga.cell' (i := 4) rfl; have x5 := ga.cell' (i := 5) rfl; have x6 := ga.cell' (i := 6) rfl; have x7 := ga.cell' (i := 7) rfl; have x8 := ga.cell' (i := 8) rfl; cases b2) | (go_at_call 28; refine (hlis (hq2 rfl).1 _ (hd.below hbs) (hlg.below hbs)).mono ?_; rintro e w7 ⟨q, u, cq, rfl, ho, hul, hb7⟩))
          · go_ret
            exact ⟨retNo rfl, hb0⟩
          have hphys := (hq2 rfl).2
          have hsq1 := hq1 rfl
          have hs6 := hb0.size
          have hpos := uses_pos (D := D) (sp := sp) hphys
          have HGd : Hid (∀ U, U = usesL D sp logs → U.Nodup → (∀ i, i < U.length → eI U i < 256) → Good (P : Int) (L : Int) K sp sl su D H logs) := fun U hU h1 h2 => by
            subst hU
            exact ⟨HOK.out, by rw [hd.len], by rw [hh.len]; exact hLP.symm, fun i hi => hlo.out i (by rw [← hd.len]; exact hi), fun j hj hv => by rw [Int.toNat_natCast]; exact hhv.out j (by rw [← hh.len]; exact hj) hv, hsq1, h1, h2⟩
          replace gs := gs.kept hb7
          replace hbs := bt hbs hb7
          obtain ⟨gS, HgS⟩ : ∃ g, g = w2.heap.size := ⟨_, rfl⟩
          rw [← HgS] at gs hs6 ⊢
          clear HgS x0 x1 x2 x3 x4 x5 x6 x7 x8 ga hb7 hlis hphys hsq1 hlo hhv hq1 hq2 hmk
          obtain ⟨U, HU⟩ : ∃ U, Hid (U = usesL D sp logs) := ⟨_, rfl⟩
          rw [← HU.out] at ho hpos
          obtain ⟨p', c', e', hin⟩ := in_of_ownsI ho (by omega)
          cases e'
          have hlen := hin.len
          have hpos' : ∀ i, i < U.length → 0 ≤ eI U i := fun i hi => hpos _ (by simp [eI, hi])
          have hgo : ∀ a, q = some a → a.block ≠ gS := fun a ha e => by subst ha; obtain ⟨c1, e1⟩ := owns_blk ho; rw [e, gs] at e1; cases e1
          clear hpos
          try go_wp2
          go_loopw [9] (fun i wr => ∃ k : Nat, k ≤ u ∧ i = .int .i64 k ∧ Blk wr gS 4 (valsB (markTo U k)) ∧ InI wr q u cq U ∧ Hid ((U.take k).Nodup ∧ ∀ i, i < k → eI U i < 256) ∧ Below w.heap.size w wr) (fun i _ => u - (intOf i).toNat)
          case atStart => exact ⟨0, Nat.zero_le _, rfl, by show Blk _ _ _ (valsB (List.replicate 256 false)); rw [HZ.out]; exact gs, hin, ⟨by simp, fun i hi => (by omega)⟩, hbs⟩
          case round =>
            obtain ⟨k, hk, rfl, gk, ik, HN, hbk⟩ := hrel
            clear gs hin hbs
            by_cases hlt : k < u
            · have hki : (k : Int) < (u : Int) := by omega
              obtain ⟨b, o, rfl, hbl, hc⟩ := ik.at' (by omega)
              have e0 := hc k hlt
              have hku : k < U.length := by omega
              have hr := hpos' k hku
              obtain ⟨x, hx⟩ : ∃ x : Nat, eI U k = (x : Int) := ⟨(eI U k).toNat, by omega⟩
              have HXk : Hid (eI U k = (x : Int)) := hx
              rw [hx] at e0
              clear hx hr hc
              by_cases h1 : (256 : Int) ≤ (x : Int)
              · go_wp2
                go_ret
                exact ⟨retNo rfl, hbk⟩
              have hx3 : (x : Int) < 256 := by omega
              have HMk : Hid (eB (markTo U k) x = true ↔ (x : Int) ∈ U.take k) := markTo_at (by omega) (by omega) hpos'
              have HS : Hid (markTo U (k + 1) = (markTo U k).set x true) := by show (markTo U k).set (eI U k).toNat true = _; rw [HXk.out, Int.toNat_natCast]
              have hml := markTo_length U k
              generalize markTo U k = S at *
              have hcx := gk.cell' (valsB_get2 S x (by omega))
              have hfx := gk.frozen x
              have hbne := hgo _ rfl
              dsimp only at hbne
              cases hm : eB S x with
              | true =>
                rw [hm] at hcx
                clear hm HMk
                go_wp2
                go_ret
                exact ⟨retNo rfl, hbk⟩
              | false =>
                rw [hm] at hcx
                have HNk : Hid ((x : Int) ∉ U.take k) := fun h => by have := HMk.out.2 h; rw [hm] at this; cases this
                clear hm HMk
                go_wp2
                go_roundw
                case rel =>
                  have tn := Turned.setCell wr ⟨gS, x, none⟩ (.bool true)
                  dsimp only at tn
                  refine ⟨k + 1, by omega, by go_num, ?_, ik.turnedI tn hbne, ⟨nodup_step hku HN.out.1 (by rw [HXk.out]; exact HNk.out), fun i hi => ?_⟩, tn.below hbk (by omega)⟩
                  · rw [HS.out, ← valsB_set2]; exact gk.set x (.bool true)
                  · by_cases e : i = k
                    · subst e; rw [HXk.out]; exact hx3
                    · exact HN.out.2 i (by omega)
                case measure => simp [intOf]; omega
            · obtain rfl : u = k := by omega
              go_wp2
              go_ret
              exact ⟨retYes rfl (HGd.out U HU.out (by have := HN.out.1; rwa [List.take_of_length_le (by omega)] at this) (fun i hi => HN.out.2 i (by omega))), hbk⟩
end Go.Proofs.Ytfgelncfmopibab
