/-
  The reference's logs and seq of any table.
-/
import Derived.Test.YtfgelncfmopibabSnRChk
namespace Go.Proofs.Ytfgelncfmopibab
open Go.RowKit
/-- A bool of which something is known is handed out. -/
def RetB (Q : Bool → Prop) (e : Ending) : Prop := ∃ b, e = .returned (.bool b) ∧ Q b
theorem retB {Q : Bool → Prop} {e : Ending} (b : Bool) (h : e = .returned (.bool b)) (hq : Q b) : RetB Q e := ⟨b, h, hq⟩
def PhysOk (logs : List LogS) (b : Bool) : Prop := b = true → logs.length ≤ 8 ∧ ∀ (i : Nat) (l : LogS), logs[i]? = some l → 0 ≤ l.phys
theorem physNo (logs : List LogS) : PhysOk logs false := fun h => by cases h
def SeqOk (sp sl su : Int) (b : Bool) : Prop := b = true → sp < 0 → sp = -1 ∧ sl = 0 ∧ su = 0
theorem seqNo (sp sl su : Int) : SeqOk sp sl su false := fun h => by cases h
theorem seqPos {sp : Int} (sl su : Int) (b : Bool) (h : ¬ sp < 0) : SeqOk sp sl su b := fun _ h' => absurd h' h
set_option linter.unusedSimpArgs false in
set_option maxRecDepth 100000 in
set_option maxHeartbeats 8000000 in
theorem logsG (P L : Nat) (K sp sl su : Int) (pd ph pl : Option Addr) (nd cd nh ch nl cl : Nat) (n : Nat) (logs : List LogS) (w : World) (h : LogsIn w pl nl cl logs) (hPL : (P : Int) * (L : Int) = (n : Int)) (hn : n ≤ 8192) (hP : P ≤ 32) (hK : K ≤ 8) :
    Calls Try.prog 27 #[.agg #[.int .i64 (P : Int), .int .i64 (L : Int), .int .i64 K, .slice pd nd cd, .slice ph nh ch, .int .i64 sp, .int .i64 sl, .int .i64 su, .slice pl nl cl]] w fun e w' => RetB (PhysOk logs) e ∧ Below w.heap.size w w' := by
  have hnI : (n : Int) ≤ 8192 := by omega
  have hPI : (P : Int) ≤ 32 := by omega
  have hroom := h.room
  have hmk := make_bools n (by omega)
  have g0 := Blk.new' w 35 #[.int .i64 (P : Int), .int .i64 (L : Int), .int .i64 K, .slice pd nd cd, .slice ph nh ch, .int .i64 sp, .int .i64 sl, .int .i64 su, .slice pl nl cl]
  have hb0 := below_alloc w (.cells #[.int .i64 (P : Int), .int .i64 (L : Int), .int .i64 K, .slice pd nd cd, .slice ph nh ch, .int .i64 sp, .int .i64 sl, .int .i64 su, .slice pl nl cl] 35)
  by_cases hk : K < (nl : Int)
  · go_enter Try.func27, Try.ntmps27
    go_wp2
    go_ret
    exact ⟨retB false rfl (physNo _), hb0⟩
  have hnl : nl ≤ 8 := by omega
  have hnlI : (nl : Int) ≤ 8 := by omega
  go_enter Try.func27, Try.ntmps27
  go_upto_region 4 with (fail)
  have ga := g0.alloc (.cells (valsB (List.replicate n false)).toArray 4)
  have gs := Blk.new (w.alloc (.cells #[.int .i64 (P : Int), .int .i64 (L : Int), .int .i64 K, .slice pd nd cd, .slice ph nh ch, .int .i64 sp, .int .i64 sl, .int .i64 su, .slice pl nl cl] 35)) 4 (valsB (List.replicate n false))
  rw [World.size_alloc] at gs
  have hb1 := bt hb0 (below_alloc _ (.cells (valsB (List.replicate n false)).toArray 4))
  have hs1 : ((w.alloc (.cells #[.int .i64 (P : Int), .int .i64 (L : Int), .int .i64 K, .slice pd nd cd, .slice ph nh ch, .int .i64 sp, .int .i64 sl, .int .i64 su, .slice pl nl cl] 35)).alloc (.cells (valsB (List.replicate n false)).toArray 4)).heap.size = w.heap.size + 2 := by rw [World.size_alloc, World.size_alloc]
  obtain ⟨S0, HS0, hS0⟩ : ∃ S : List Bool, Hid (List.replicate n false = S) ∧ S.length = n := ⟨_, rfl, List.length_replicate⟩
  rw [HS0.out] at ga gs hb1 hs1 ⊢
  generalize (w.alloc (.cells #[.int .i64 (P : Int), .int .i64 (L : Int), .int .i64 K, .slice pd nd cd, .slice ph nh ch, .int .i64 sp, .int .i64 sl, .int .i64 su, .slice pl nl cl] 35)).alloc (.cells (valsB S0).toArray 4) = W0 at *
  clear g0 hb0 hmk HS0
  go_wp2
  go_loopw [4] (fun i wr => ∃ (j : Nat) (S : List Bool), j ≤ nl ∧ i = .int .i64 j ∧ Hid (∀ (i : Nat) (l : LogS), i < j → logs[i]? = some l → 0 ≤ l.phys) ∧ S.length = n ∧ Blk wr (w.heap.size + 1) 4 (valsB S) ∧ Blk wr w.heap.size 35 [.int .i64 (P : Int), .int .i64 (L : Int), .int .i64 K, .slice pd nd cd, .slice ph nh ch, .int .i64 sp, .int .i64 sl, .int .i64 su, .slice pl nl cl] ∧ Below w.heap.size w wr) (fun i _ => nl - (intOf i).toNat)
  case atStart => exact ⟨0, S0, Nat.zero_le _, rfl, fun i l hi => (by omega), hS0, gs, ga, hb1⟩
  case round =>
    obtain ⟨j, S, hj, rfl, hph, hS, gS, gA, hbj⟩ := hrel
    clear gs ga hb1 hS0 hs1
    have x8 := gA.cell' (i := 8) rfl
    have hsl := gS.lt
    by_cases hlt : j < nl
    · have hji : (j : Int) < (nl : Int) := by omega
      have hjl : j < logs.length := by rw [h.len]; exact hlt
      obtain ⟨b0, o0, e00, hbl0, hc0⟩ := h.at' (by omega)
      obtain ⟨q, m, d, c0, c1, hin⟩ := hc0 j _ (List.getElem?_eq_getElem hjl)
      subst e00
      have e0 := (hbj.cell (p := ⟨b0, o0 + j * 2, none⟩) hbl0).trans c0
      have e1 := (hbj.cell (p := ⟨b0, o0 + j * 2 + 1, none⟩) hbl0).trans c1
      have hrm := hin.room
      have Hl : Hid (logs[j]? = some logs[j]) := List.getElem?_eq_getElem hjl
      generalize logs[j] = lg at *
      obtain ⟨phys, pages⟩ := lg
      dsimp only at c0 e0 hin
      clear hc0 c0 c1
      have ba := below_alloc wr (.cells #[.int .i64 phys, .slice q m d] 73)
      have bb := Blk.new' wr 73 #[.int .i64 phys, .slice q m d]
      have gS1 := gS.alloc (.cells #[.int .i64 phys, .slice q m d] 73)
      have gA1 := gA.alloc (.cells #[.int .i64 phys, .slice q m d] 73)
      have hb2 := bt hbj ba
      go_upto_region 8 with (fail)
      obtain ⟨gL, HgL⟩ : ∃ g, g = wr.heap.size := ⟨_, rfl⟩
      rw [← HgL] at bb ⊢
      have hgL : w.heap.size + 1 < gL := by rw [HgL]; exact hsl
      generalize wr.alloc (.cells #[.int .i64 phys, .slice q m d] 73) = W1 at *
      clear HgL ba gS gA e0 e1 x8 hbj hsl
      have y0 := gA1.cell' (i := 0) rfl
      have y8 := gA1.cell' (i := 8) rfl
      have z0 := bb.cell' (i := 0) rfl
      have z1 := bb.cell' (i := 1) rfl
      by_cases h1 : phys < 0
      · go_wp2
        go_ret
        exact ⟨retB false rfl (physNo _), hb2⟩
      by_cases h2 : (P : Int) < (m : Int)
      · go_wp2
        go_ret
        exact ⟨retB false rfl (physNo _), hb2⟩
      have hm : m ≤ 32 := by omega
      have hmI : (m : Int) ≤ 32 := by omega
      have hph' : Hid (∀ (i : Nat) (l : LogS), i < j + 1 → logs[i]? = some l → 0 ≤ l.phys) := fun i l hi hl => by
        by_cases e : i = j
        · subst e
          rw [Hl.out] at hl
          cases hl
          show 0 ≤ phys
          omega
        · exact hph.out i l (by omega) hl
      clear hph Hl
      have hpass : ∀ b : Bool, ((decide ((j : Int) < (nl : Int) - 1)) = b) → (b = true → ¬ (m : Int) = (P : Int)) ∨ True := fun _ _ => .inr trivial
      clear hpass
      by_cases h4 : (j : Int) < (nl : Int) - 1
      · by_cases h5 : (m : Int) = (P : Int)
        · have h5c : ((m : Int) == (P : Int)) = true := by rw [beq_iff_eq]; exact h5
          go_upto_region 10 with (fail)
          clear y0 y8 z0 z1 h5 h5c h4
          go_wp2
          go_loopw [6] (fun i wr => ∃ (k : Nat) (S : List Bool), k ≤ m ∧ i = .int .i64 k ∧ S.length = n ∧ Blk wr (w.heap.size + 1) 4 (valsB S) ∧ Blk wr w.heap.size 35 [.int .i64 (P : Int), .int .i64 (L : Int), .int .i64 K, .slice pd nd cd, .slice ph nh ch, .int .i64 sp, .int .i64 sl, .int .i64 su, .slice (some ⟨b0, o0, none⟩) nl cl] ∧ Blk wr gL 73 [.int .i64 phys, .slice q m d] ∧ Below w.heap.size w wr) (fun i _ => m - (intOf i).toNat)
          case atStart => exact ⟨0, S, Nat.zero_le _, rfl, hS, gS1, gA1, bb, hb2⟩
          case round =>
            obtain ⟨k, S2, hk2, rfl, hS2, gS2, gA2, bb2, hb3⟩ := hrel
            clear gS1 gA1 bb hb2 hS
            have z1 := bb2.cell' (i := 1) rfl
            have z0 := gA2.cell' (i := 0) rfl
            have z2 := gA2.cell' (i := 1) rfl
            by_cases hkm : k < m
            · have hki : (k : Int) < (m : Int) := by omega
              obtain ⟨b', o', rfl, hbl', hc'⟩ := (hin.below hb3).at' (by omega)
              have f0 := hc' k hkm
              generalize eI pages k = x at *
              clear hc'
              by_cases p1 : x < -1
              · go_wp2
                go_ret
                exact ⟨retB false rfl (physNo _), hb3⟩
              by_cases p2 : (n : Int) ≤ x
              · have p2' : ¬ x < (n : Int) := by omega
                go_wp2
                go_ret
                exact ⟨retB false rfl (physNo _), hb3⟩
              by_cases p3 : 0 ≤ x
              · obtain ⟨y, rfl⟩ : ∃ y : Nat, x = (y : Int) := ⟨x.toNat, by omega⟩
                have hyl : y < S2.length := by omega
                have hyI : (y : Int) < (n : Int) := by omega
                have hcy := gS2.cell' (valsB_get2 S2 y hyl)
                have hfy := gS2.frozen y
                cases hsy : eB S2 y with
                | true =>
                  rw [hsy] at hcy
                  go_wp2
                  go_ret
                  exact ⟨retB false rfl (physNo _), hb3⟩
                | false =>
                  rw [hsy] at hcy
                  go_wp2
                  go_roundw
                  case rel =>
                    have tn := Turned.setCell wr ⟨w.heap.size + 1, y, none⟩ (.bool true)
                    dsimp only at tn
                    exact ⟨k + 1, S2.set y true, by omega, by go_num, by rw [List.length_set]; exact hS2, by rw [← valsB_set2]; exact gS2.set y (.bool true), gA2.turned tn (by omega), bb2.turned tn (by omega), tn.below hb3 (by omega)⟩
                  case measure => simp [intOf]; omega
              · go_wp2
                go_roundw
                case rel => exact ⟨k + 1, S2, by omega, by go_num, hS2, gS2, gA2, bb2, hb3⟩
                case measure => simp [intOf]; omega
            · obtain rfl : m = k := by omega
              go_wp2
              go_roundw
              case rel => exact ⟨j + 1, S2, by omega, by go_num, hph', hS2, gS2, gA2, hb3⟩
              case measure => simp [intOf]; omega
        · have h5c : ((m : Int) == (P : Int)) = false := by rw [beq_eq_false_iff_ne]; exact h5
          go_wp2
          go_ret
          exact ⟨retB false rfl (physNo _), hb2⟩
      · go_upto_region 10 with (fail)
        clear y0 y8 z0 z1 h4
        go_wp2
        go_loopw [6] (fun i wr => ∃ (k : Nat) (S : List Bool), k ≤ m ∧ i = .int .i64 k ∧ S.length = n ∧ Blk wr (w.heap.size + 1) 4 (valsB S) ∧ Blk wr w.heap.size 35 [.int .i64 (P : Int), .int .i64 (L : Int), .int .i64 K, .slice pd nd cd, .slice ph nh ch, .int .i64 sp, .int .i64 sl, .int .i64 su, .slice (some ⟨b0, o0, none⟩) nl cl] ∧ Blk wr gL 73 [.int .i64 phys, .slice q m d] ∧ Below w.heap.size w wr) (fun i _ => m - (intOf i).toNat)
        case atStart => exact ⟨0, S, Nat.zero_le _, rfl, hS, gS1, gA1, bb, hb2⟩
        case round =>
          obtain ⟨k, S2, hk2, rfl, hS2, gS2, gA2, bb2, hb3⟩ := hrel
          clear gS1 gA1 bb hb2 hS
          have z1 := bb2.cell' (i := 1) rfl
          have z0 := gA2.cell' (i := 0) rfl
          have z2 := gA2.cell' (i := 1) rfl
          by_cases hkm : k < m
          · have hki : (k : Int) < (m : Int) := by omega
            obtain ⟨b', o', rfl, hbl', hc'⟩ := (hin.below hb3).at' (by omega)
            have f0 := hc' k hkm
            generalize eI pages k = x at *
            clear hc'
            by_cases p1 : x < -1
            · go_wp2
              go_ret
              exact ⟨retB false rfl (physNo _), hb3⟩
            by_cases p2 : (n : Int) ≤ x
            · have p2' : ¬ x < (n : Int) := by omega
              go_wp2
              go_ret
              exact ⟨retB false rfl (physNo _), hb3⟩
            by_cases p3 : 0 ≤ x
            · obtain ⟨y, rfl⟩ : ∃ y : Nat, x = (y : Int) := ⟨x.toNat, by omega⟩
              have hyl : y < S2.length := by omega
              have hyI : (y : Int) < (n : Int) := by omega
              have hcy := gS2.cell' (valsB_get2 S2 y hyl)
              have hfy := gS2.frozen y
              cases hsy : eB S2 y with
              | true =>
                rw [hsy] at hcy
                go_wp2
                go_ret
                exact ⟨retB false rfl (physNo _), hb3⟩
              | false =>
                rw [hsy] at hcy
                go_wp2
                go_roundw
                case rel =>
                  have tn := Turned.setCell wr ⟨w.heap.size + 1, y, none⟩ (.bool true)
                  dsimp only at tn
                  exact ⟨k + 1, S2.set y true, by omega, by go_num, by rw [List.length_set]; exact hS2, by rw [← valsB_set2]; exact gS2.set y (.bool true), gA2.turned tn (by omega), bb2.turned tn (by omega), tn.below hb3 (by omega)⟩
                case measure => simp [intOf]; omega
            · go_wp2
              go_roundw
              case rel => exact ⟨k + 1, S2, by omega, by go_num, hS2, gS2, gA2, bb2, hb3⟩
              case measure => simp [intOf]; omega
          · obtain rfl : m = k := by omega
            go_wp2
            go_roundw
            case rel => exact ⟨j + 1, S2, by omega, by go_num, hph', hS2, gS2, gA2, hb3⟩
            case measure => simp [intOf]; omega
    · obtain rfl : nl = j := by omega
      go_wp2
      go_ret
      exact ⟨retB true rfl (fun _ => ⟨by rw [h.len]; exact hnl, fun i l hi => hph.out i l (by have := (List.getElem?_eq_some_iff.1 hi).1; rw [h.len] at this; exact this) hi⟩), hbj⟩
set_option linter.unusedSimpArgs false in
set_option maxHeartbeats 4000000 in
theorem seqG (P L : Nat) (K sp sl su : Int) (pd ph pl : Option Addr) (nd cd nh ch nl cl : Nat) (w : World) :
    Calls Try.prog 26 #[.agg #[.int .i64 (P : Int), .int .i64 (L : Int), .int .i64 K, .slice pd nd cd, .slice ph nh ch, .int .i64 sp, .int .i64 sl, .int .i64 su, .slice pl nl cl]] w fun e w' => RetB (SeqOk sp sl su) e ∧ Below w.heap.size w w' := by
  have hb0 := bt (below_alloc w (.cells #[.int .i64 (P : Int), .int .i64 (L : Int), .int .i64 K, .slice pd nd cd, .slice ph nh ch, .int .i64 sp, .int .i64 sl, .int .i64 su, .slice pl nl cl] 35)) (below_alloc (w.alloc (.cells #[.int .i64 (P : Int), .int .i64 (L : Int), .int .i64 K, .slice pd nd cd, .slice ph nh ch, .int .i64 sp, .int .i64 sl, .int .i64 su, .slice pl nl cl] 35)) (.cells #[.int .i64 sp, .int .i64 sl, .int .i64 su] 32))
  by_cases h1 : sp < 0
  · by_cases h2 : sp = -1
    · subst h2
      by_cases h3 : sl = 0
      · subst h3
        by_cases h4 : su = 0
        · subst h4
          go_enter Try.func26, Try.ntmps26
          go_wp2
          go_ret
          exact ⟨retB true rfl (fun _ _ => ⟨rfl, rfl, rfl⟩), hb0⟩
        · have h4c : (su == 0) = false := by rw [beq_eq_false_iff_ne]; exact h4
          go_enter Try.func26, Try.ntmps26
          go_wp2
          go_ret
          exact ⟨retB false rfl (seqNo _ _ _), hb0⟩
      · have h3c : (sl == 0) = false := by rw [beq_eq_false_iff_ne]; exact h3
        go_enter Try.func26, Try.ntmps26
        go_wp2
        go_ret
        exact ⟨retB false rfl (seqNo _ _ _), hb0⟩
    · have h2c : (sp == -1) = false := by rw [beq_eq_false_iff_ne]; exact h2
      go_enter Try.func26, Try.ntmps26
      go_wp2
      go_ret
      exact ⟨retB false rfl (seqNo _ _ _), hb0⟩
  · by_cases k1 : 0 ≤ sl
    · by_cases k2 : sl < (L : Int)
      · by_cases k3 : 0 ≤ su
        · by_cases k4 : su ≤ (P : Int)
          · go_enter Try.func26, Try.ntmps26
            go_wp2
            go_ret
            exact ⟨retB _ rfl (seqPos _ _ _ (by omega)), hb0⟩
          · go_enter Try.func26, Try.ntmps26
            go_wp2
            go_ret
            exact ⟨retB _ rfl (seqPos _ _ _ (by omega)), hb0⟩
        · go_enter Try.func26, Try.ntmps26
          go_wp2
          go_ret
          exact ⟨retB _ rfl (seqPos _ _ _ (by omega)), hb0⟩
      · go_enter Try.func26, Try.ntmps26
        go_wp2
        go_ret
        exact ⟨retB _ rfl (seqPos _ _ _ (by omega)), hb0⟩
    · go_enter Try.func26, Try.ntmps26
      go_wp2
      go_ret
      exact ⟨retB _ rfl (seqPos _ _ _ (by omega)), hb0⟩
end Go.Proofs.Ytfgelncfmopibab
