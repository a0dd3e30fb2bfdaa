/-
  The reference's Check of a table without logs.
-/
import Derived.Test.YtfgelncfmopibabSnStP
namespace Go.Proofs.Ytfgelncfmopibab
open Go.RowKit
theorem seqR_yes (P L : Nat) (K : Int) (pd ph pl : Option Addr) (n cd ch cl : Nat) (w : World) :
    Calls Try.prog 26 #[.agg #[.int .i64 (P : Int), .int .i64 (L : Int), .int .i64 K, .slice pd L cd, .slice ph n ch, .int .i64 (-1), .int .i64 0, .int .i64 0, .slice pl 0 cl]] w fun e w' => e = .returned (.bool true) ∧ Below w.heap.size w w' := by
  have hb0 := bt (below_alloc w (.cells #[.int .i64 (P : Int), .int .i64 (L : Int), .int .i64 K, .slice pd L cd, .slice ph n ch, .int .i64 (-1), .int .i64 0, .int .i64 0, .slice pl 0 cl] 35)) (below_alloc (w.alloc (.cells #[.int .i64 (P : Int), .int .i64 (L : Int), .int .i64 K, .slice pd L cd, .slice ph n ch, .int .i64 (-1), .int .i64 0, .int .i64 0, .slice pl 0 cl] 35)) (.cells #[.int .i64 (-1), .int .i64 0, .int .i64 0] 32))
  go_enter Try.func26, Try.ntmps26
  go_wp2
  go_ret
  exact ⟨rfl, hb0⟩
set_option linter.unusedSimpArgs false in
set_option maxRecDepth 100000 in
set_option maxHeartbeats 4000000 in
theorem logsR_yes (P L : Nat) (K : Int) (pd ph pl : Option Addr) (n cd ch cl : Nat) (w : World) (hLP : (L : Int) * (P : Int) = (n : Int)) (hn : n ≤ 8192) (hK : 1 ≤ K) :
    Calls Try.prog 27 #[.agg #[.int .i64 (P : Int), .int .i64 (L : Int), .int .i64 K, .slice pd L cd, .slice ph n ch, .int .i64 (-1), .int .i64 0, .int .i64 0, .slice pl 0 cl]] w fun e w' => e = .returned (.bool true) ∧ Below w.heap.size w w' := by
  have hPL : (P : Int) * (L : Int) = (n : Int) := by rw [Int.mul_comm]; exact hLP
  have hnI : (n : Int) ≤ 8192 := by omega
  have hk0 : ¬ K < 0 := by omega
  have hmk := make_bools n (by omega)
  have g0 := Blk.new' w 35 #[.int .i64 (P : Int), .int .i64 (L : Int), .int .i64 K, .slice pd L cd, .slice ph n ch, .int .i64 (-1), .int .i64 0, .int .i64 0, .slice pl 0 cl]
  have hb0 := below_alloc w (.cells #[.int .i64 (P : Int), .int .i64 (L : Int), .int .i64 K, .slice pd L cd, .slice ph n ch, .int .i64 (-1), .int .i64 0, .int .i64 0, .slice pl 0 cl] 35)
  go_enter Try.func27, Try.ntmps27
  go_upto_region 4 with (fail)
  have ga := g0.alloc (.cells (valsB (List.replicate n false)).toArray 4)
  have hb1 := bt hb0 (below_alloc _ (.cells (valsB (List.replicate n false)).toArray 4))
  generalize (w.alloc (.cells #[.int .i64 (P : Int), .int .i64 (L : Int), .int .i64 K, .slice pd L cd, .slice ph n ch, .int .i64 (-1), .int .i64 0, .int .i64 0, .slice pl 0 cl] 35)).alloc (.cells (valsB (List.replicate n false)).toArray 4) = W0 at *
  clear g0 hb0 hmk
  go_wp2
  go_loopw [4] (fun i wr => i = .int .i64 0 ∧ Blk wr w.heap.size 35 [.int .i64 (P : Int), .int .i64 (L : Int), .int .i64 K, .slice pd L cd, .slice ph n ch, .int .i64 (-1), .int .i64 0, .int .i64 0, .slice pl 0 cl] ∧ Below w.heap.size w wr) (fun _ _ => 0)
  case atStart => exact ⟨rfl, ga, hb1⟩
  case round =>
    obtain ⟨rfl, ja, hbj⟩ := hrel
    have z8 := ja.cell' (i := 8) rfl
    go_wp2
    go_ret
    exact ⟨rfl, hbj⟩
set_option linter.unusedSimpArgs false in
set_option maxRecDepth 100000 in
set_option maxHeartbeats 8000000 in
theorem listR_any (P L : Nat) (K : Int) (pd ph pl : Option Addr) (n cd ch cl : Nat) (D : List Int) (w : World) (hd : InI w pd L cd D) (hL : L ≤ 256) (hlo : ∀ b, b < L → -1 ≤ eI D b) :
    Calls Try.prog 28 #[.agg #[.int .i64 (P : Int), .int .i64 (L : Int), .int .i64 K, .slice pd L cd, .slice ph n ch, .int .i64 (-1), .int .i64 0, .int .i64 0, .slice pl 0 cl]] w fun e w' => ∃ q cq, e = .returned (.slice q (dataTo D L).length cq) ∧ w'.ownsRow w.heap.size 3 1 (.slice q (dataTo D L).length cq) (dataTo D L).length (valsI (dataTo D L)) ∧ Below w.heap.size w w' := by
  obtain ⟨i0, hi, hz0, hz1, hz2⟩ := info_parts infoI
  have g0 := Blk.new' w 35 #[.int .i64 (P : Int), .int .i64 (L : Int), .int .i64 K, .slice pd L cd, .slice ph n ch, .int .i64 (-1), .int .i64 0, .int .i64 0, .slice pl 0 cl]
  have hb0 := below_alloc w (.cells #[.int .i64 (P : Int), .int .i64 (L : Int), .int .i64 K, .slice pd L cd, .slice ph n ch, .int .i64 (-1), .int .i64 0, .int .i64 0, .slice pl 0 cl] 35)
  have hLI : (L : Int) ≤ 256 := by omega
  go_enter Try.func28, Try.ntmps28
  go_upto_region 1 with (fail)
  generalize w.alloc (.cells #[.int .i64 (P : Int), .int .i64 (L : Int), .int .i64 K, .slice pd L cd, .slice ph n ch, .int .i64 (-1), .int .i64 0, .int .i64 0, .slice pl 0 cl] 35) = W0 at *
  go_wp2
  go_loopw [3, 4] (fun v i wr => ∃ (k : Nat) (q : Option Addr) (lq cq : Nat), k ≤ L ∧ i = .int .i64 k ∧ v = .slice q lq cq ∧ Hid ((dataTo D k).length = lq) ∧ wr.ownsRow (w.heap.size + 1) 3 1 (.slice q lq cq) lq (valsI (dataTo D k)) ∧ Blk wr w.heap.size 35 [.int .i64 (P : Int), .int .i64 (L : Int), .int .i64 K, .slice pd L cd, .slice ph n ch, .int .i64 (-1), .int .i64 0, .int .i64 0, .slice pl 0 cl] ∧ Below w.heap.size w wr) (fun _ i _ => L - (intOf i).toNat)
  case atStart => exact ⟨0, none, 0, 0, Nat.zero_le _, rfl, rfl, by show (dataTo D 0).length = 0; simp [dataTo], by rw [show dataTo D 0 = [] by simp [dataTo]]; exact ⟨rfl, .inl ⟨rfl, rfl⟩⟩, g0, hb0⟩
  case round =>
    obtain ⟨k, q, lq, cq, hk, rfl, rfl, HL, hown, ga, hbk⟩ := hrel
    clear g0 hb0
    have hle := dataTo_le D k
    rw [HL.out] at hle
    have x3 := ga.cell' (i := 3) rfl
    have hgl := ga.lt
    by_cases hlt : k < L
    · have hki : (k : Int) < (L : Int) := by omega
      obtain ⟨b, o, rfl, hbl, hc⟩ := (hd.below hbk).at' (by omega)
      have e0 := hc k hlt
      have hx := hlo k hlt
      have hyes := fun h => dataTo_yes (D := D) (k := k) (by rw [hd.len]; exact hlt) h
      have hno := fun h => dataTo_no (D := D) (k := k) (by rw [hd.len]; exact hlt) h
      generalize eI D k = x at *
      clear hc
      by_cases h1 : x = -1
      · subst h1
        have HS : Hid (dataTo D (k + 1) = dataTo D k) := hno rfl
        clear hyes hno
        have HW : Hid (wr.ownsRow (w.heap.size + 1) 3 1 (.slice q lq cq) lq (valsI (dataTo D k))) := hown
        clear hown
        go_wp2
        go_roundw
        case rel => exact ⟨k + 1, q, lq, cq, by omega, by go_num, rfl, by rw [HS.out]; exact HL, by rw [HS.out]; exact HW.out, ga, hbk⟩
        case measure => simp [intOf]; omega
      · have HS : Hid (dataTo D (k + 1) = dataTo D k ++ [x]) := hyes h1
        have hx0 : 0 ≤ x := by omega
        clear hyes hno
        generalize dataTo D k = U at *
        have HW : Hid (wr.ownsRow (w.heap.size + 1) 3 1 (.slice q lq cq) lq (valsI U)) := hown
        clear hown
        go_wp2_with (at_builtin; refine wpList_append_own _ rfl (.tmp 19) (.tmp 25) 29 rfl (w.heap.size + 1) 3 i0 (.int .i64 0) 1 8 Try.underlying29 hi hz0 hz1 hz2 rfl (by decide) (.slice q lq cq) lq (valsI U) rfl (HW.out.alloc _) ⟨wr.heap.size, 0, none⟩ 1 1 [.int .i64 x] rfl rfl (new_one wr _) (by simp [Value.oneCell']) (by unfold maxLen; omega) (by omega) (by rw [World.size_alloc]; omega) ?_; intro v1 w1 hown1 hgrow1 _; obtain ⟨q', cq', hv⟩ := owns_slice hown1; subst hv)
        go_roundw
        case rel =>
          have hb3 : Below w.heap.size w w1 := (bt hbk (below_alloc wr _)).grown hgrow1 (by rw [World.size_alloc]; have := hbk.size; omega) (fun k' hk' => by have := (HW.out.lt k' hk').1; omega)
          have g3 := (ga.kept (below_alloc wr (.cells #[.int .i64 x] 3))).grown' hgrow1 (fun k' hk' => (HW.out.lt k' hk').1) (by omega)
          have e : valsI U ++ [.int .i64 x] = valsI (dataTo D (k + 1)) := by rw [HS.out]; simp [valsI]
          rw [e] at hown1
          exact ⟨k + 1, q', lq + 1, cq', by omega, by go_num, rfl, by show _ = _; rw [HS.out, List.length_append, HL.out]; rfl, hown1, g3, hb3⟩
        case measure => simp [intOf]; omega
    · obtain rfl : L = k := by omega
      have x5 := ga.cell' (i := 5) rfl
      have HW : Hid (wr.ownsRow (w.heap.size + 1) 3 1 (.slice q lq cq) lq (valsI (dataTo D L))) := hown
      clear hown
      go_wp2
      go_loopw [3, 5] (fun v i wr => v = .slice q lq cq ∧ i = .int .i64 0 ∧ Hid (wr.ownsRow (w.heap.size + 1) 3 1 (.slice q lq cq) lq (valsI (dataTo D L))) ∧ Blk wr w.heap.size 35 [.int .i64 (P : Int), .int .i64 (L : Int), .int .i64 K, .slice pd L cd, .slice ph n ch, .int .i64 (-1), .int .i64 0, .int .i64 0, .slice pl 0 cl] ∧ Below w.heap.size w wr) (fun _ _ _ => 0)
      case atStart => exact ⟨rfl, rfl, HW, ga, hbk⟩
      case round =>
        obtain ⟨rfl, rfl, HW2, ja, hbj⟩ := hrel
        have z8 := ja.cell' (i := 8) rfl
        go_wp2
        go_ret
        exact ⟨q, cq, by rw [HL.out] <;> rfl, by rw [HL.out]; exact owns_low HW2.out (Nat.le_succ _), hbj⟩
theorem valsB_set2 (l : List Bool) (i : Nat) (x : Bool) : (valsB l).set i (.bool x) = valsB (l.set i x) := by simp [valsB, List.map_set]
theorem valsB_get2 (l : List Bool) (i : Nat) (h : i < l.length) : (valsB l)[i]? = some (.bool (eB l i)) := by simp [valsB, eB, h]
theorem InI.turnedI {w w' : World} {g b o n c : Nat} {xs : List Int} (h : InI w (some ⟨b, o, none⟩) n c xs) (ht : Turned w w' g) (hb : b ≠ g) : InI w' (some ⟨b, o, none⟩) n c xs := by
  refine ⟨h.len, h.cap, h.max, h.room, fun h0 => ?_, h.nil⟩
  obtain ⟨b', o', e, hl, hc⟩ := h.at' h0
  cases e
  exact ⟨b, o, rfl, by rw [ht.size]; exact hl, fun i hi => (World.cell?_of_block (a := ⟨b, o + i, none⟩) (ht.block b hb)).trans (hc i hi)⟩
theorem owns_blk {w : World} {B e s n c : Nat} {a : Addr} {xs : List Value} (h : w.ownsRow B e s (.slice (some a) n c) n xs) : ∃ cur, w.heap[a.block]? = some (.cells cur e) := by
  rcases h.2 with ⟨h', _⟩ | ⟨g2, cap, cur, hv', hB', hh, hr'⟩
  · simp at h'
  · simp only [Value.slice.injEq, Option.some.injEq] at hv'
    rw [hv'.1]
    exact ⟨cur, hh⟩
/-- Blocks that are marked. -/
def markTo (U : List Int) : Nat → List Bool
  | 0 => List.replicate 256 false
  | k + 1 => (markTo U k).set (eI U k).toNat true
theorem markTo_length (U : List Int) (k : Nat) : (markTo U k).length = 256 := by
  induction k with
  | zero => exact List.length_replicate
  | succ k ih => unfold markTo; rw [List.length_set]; exact ih
theorem markTo_at {U : List Int} {k x : Nat} (hx : x < 256) (hk : k ≤ U.length) (h0 : ∀ i, i < U.length → 0 ≤ eI U i) : eB (markTo U k) x = true ↔ (x : Int) ∈ U.take k := by
  induction k with
  | zero =>
    have e : eB (markTo U 0) x = false := by unfold markTo eB; rw [List.getD_eq_getElem?_getD, List.getElem?_replicate]; split <;> rfl
    rw [e]
    simp
  | succ k ih =>
    unfold markTo
    rw [eB_set, markTo_length, takeI_succ U k (by omega), List.mem_append, List.mem_singleton]
    have := h0 k (by omega)
    by_cases e : (eI U k).toNat = x
    · rw [if_pos ⟨e, by omega⟩]
      exact ⟨fun _ => .inr (by omega), fun _ => rfl⟩
    · rw [if_neg (fun h => e h.1), ih (by omega)]
      exact ⟨fun h => .inl h, fun h => h.elim id (fun h => by omega)⟩
theorem mark_no {U : List Int} {k : Nat} (hU : U.Nodup) (hk : k < U.length) (h0 : ∀ i, i < U.length → 0 ≤ eI U i ∧ eI U i < 256) : eB (markTo U k) (eI U k).toNat = false := by
  cases h : eB (markTo U k) (eI U k).toNat with
  | false => rfl
  | true =>
    have hb := h0 k hk
    have := (markTo_at (by omega) (by omega) (fun i hi => (h0 i hi).1)).1 h
    rw [Int.toNat_of_nonneg hb.1] at this
    have h2 : (U.take (k + 1)).Nodup := hU.sublist (List.take_sublist _ _)
    rw [takeI_succ U k hk, List.nodup_append] at h2
    exact absurd rfl (h2.2.2 _ this _ (by simp))
set_option linter.unusedSimpArgs false in
set_option maxRecDepth 100000 in
set_option maxHeartbeats 8000000 in
theorem checkR_ok (P L : Nat) (K : Int) (pd ph pl : Option Addr) (n cd ch cl : Nat) (t : TT) (zs : List Pl) (w : World) (hd : InI w pd L cd t.d) (hh : InB w ph n ch t.h) (hok : okSz (P : Int) (L : Int) K = true) (HM : Hid (n = L * P)) (hF : Fits P L n zs t) :
    Calls Try.prog 10 #[.agg #[.int .i64 (P : Int), .int .i64 (L : Int), .int .i64 K, .slice pd L cd, .slice ph n ch, .int .i64 (-1), .int .i64 0, .int .i64 0, .slice pl 0 cl]] w fun e w' => e = .returned (.int .i64 0) ∧ Below w.heap.size w w' := by
  have hLP : (L : Int) * (P : Int) = (n : Int) := by rw [HM.out]; exact (Int.natCast_mul L P).symm
  have hT := fits_ok hok HM.out hF
  have hND : (dataTo t.d L).Nodup ∧ ∀ i, i < (dataTo t.d L).length → 0 ≤ eI (dataTo t.d L) i ∧ eI (dataTo t.d L) i < 256 := by
    have hbl : blocksL (setT (P : Int) L K t) = dataTo t.d L := by rw [dataTo_all (by rw [hF.d]; exact Nat.le_refl _)]; simp [blocksL, setT, seqL]
    unfold okT okBlocks okBl at hT
    rw [hbl] at hT
    simp only [Bool.and_eq_true] at hT
    have h1 := hT.2.1.1.1.1
    have h2 := hT.2.1.1.1.2
    unfold twice at h2
    refine ⟨by simpa using h2, fun i hi => ?_⟩
    have := List.all_eq_true.1 h1 _ (List.getElem_mem hi)
    rw [show eI (dataTo t.d L) i = (dataTo t.d L)[i] by simp [eI, hi]]
    simp at this
    omega
  have hnew := fun w => r05new_ok (P : Int) L K n w hok hLP
  obtain ⟨⟨r1, r2⟩, ⟨r3, r4⟩, ⟨r5, r6⟩⟩ := okSz_iff.1 hok
  have hnb := prod_bd ⟨r3, r4⟩ ⟨r1, r2⟩
  have hn1 : n ≤ 8192 := by omega
  have hnI : (n : Int) ≤ 8192 := by omega
  have hlo := fun b hb => (hF.lo b hb).1
  have hsq := fun w => seqR_yes P L K pd ph pl n cd ch cl w
  have hlg := fun w => logsR_yes P L K pd ph pl n cd ch cl w hLP hn1 r5
  have hls := fun w hd => listR_any P L K pd ph pl n cd ch cl t.d w hd (by omega) hlo
  have hdl := hF.d
  have hhv := hF.hv
  clear hT hok hnb hF
  have HUL : Hid ((dataTo t.d L).length ≤ 256) := by have := dataTo_le t.d L; show _ ≤ _; omega
  generalize dataTo t.d L = U at *
  obtain ⟨D, H, l⟩ := t
  dsimp only at hd hh hdl hhv hlo hls
  have g0 := Blk.new' w 35 #[.int .i64 (P : Int), .int .i64 (L : Int), .int .i64 K, .slice pd L cd, .slice ph n ch, .int .i64 (-1), .int .i64 0, .int .i64 0, .slice pl 0 cl]
  have hb0 := below_alloc w (.cells #[.int .i64 (P : Int), .int .i64 (L : Int), .int .i64 K, .slice pd L cd, .slice ph n ch, .int .i64 (-1), .int .i64 0, .int .i64 0, .slice pl 0 cl] 35)
  obtain ⟨Z, HZ⟩ : ∃ Z : List Bool, Hid (List.replicate 256 false = Z) := ⟨_, rfl⟩
  have hmk : ∀ W : World, (Instr.makeSlice 30 (.int .i64 256) (.int .i64 256)).run Try.prog W = .ok (.slice (some ⟨W.heap.size, 0, none⟩) 256 256) (W.alloc (.cells (valsB Z).toArray 4)) := fun W => HZ.out ▸ make_bools 256 (by omega) W
  go_enter Try.func10, Try.ntmps10
  go_upto_region 1 with (fail)
  generalize w.alloc (.cells #[.int .i64 (P : Int), .int .i64 (L : Int), .int .i64 K, .slice pd L cd, .slice ph n ch, .int .i64 (-1), .int .i64 0, .int .i64 0, .slice pl 0 cl] 35) = W0 at *
  have ga := g0
  have x0 := ga.cell' (i := 0) rfl; have x1 := ga.cell' (i := 1) rfl; have x2 := ga.cell' (i := 2) rfl; have x3 := ga.cell' (i := 3) rfl; have x4 := ga.cell' (i := 4) rfl; have x5 := ga.cell' (i := 5) rfl; have x6 := ga.cell' (i := 6) rfl; have x7 := ga.cell' (i := 7) rfl; have x8 := ga.cell' (i := 8) rfl
  go_upto_region 4 with (first | (go_at_call 25; refine (hnew _).mono ?_; rintro e w1 ⟨V, rfl, -, -, -, -, hb1⟩; replace ga := ga.kept hb1; replace hb0 := bt hb0 hb1; clear hb1 x0 x1 x2 x3 x4 x5 x6 x7 x8; have x0 := ga.cell' (i := 0) rfl; have x1 := ga.cell' (i := 1) rfl; have x2 := ga.cell' (i := 2) rfl; have x3 := ga.cell' (i := 3) rfl; have x4 := ga.cell' (i := 4) rfl; have x5 := ga.cell' (i := 5) rfl; have x6 := ga.cell' (i := 6) rfl; have x7 := ga.cell' (i := 7) rfl; have x8 := ga.cell' (i := 8) rfl) | (refine wpList_store_blk rfl 35 (.tmp 3) (.tmp 18) rfl w1.heap.size 0 (tabC V (newT (P : Int) L K n)) rfl rfl (Blk.new' w1 35 #[.int .i64 0, .int .i64 0, .int .i64 0, .slice none 0 0, .slice none 0 0, .int .i64 0, .int .i64 0, .int .i64 0, .slice none 0 0]) (by exact Nat.le_refl _) (tabSize _ _) (tabOne _ _) ?_; intro W4 h4 ht4; clear h4; have k4 : Below w1.heap.size w1 W4 := ht4.below (below_alloc w1 _) (Nat.le_refl _); clear ht4; replace ga := ga.kept k4; replace hb0 := bt hb0 k4; clear k4 x0 x1 x2 x3 x4 x5 x6 x7 x8; have x0 := ga.cell' (i := 0) rfl; have x1 := ga.cell' (i := 1) rfl; have x2 := ga.cell' (i := 2) rfl; have x3 := ga.cell' (i := 3) rfl; have x4 := ga.cell' (i := 4) rfl; have x5 := ga.cell' (i := 5) rfl; have x6 := ga.cell' (i := 6) rfl; have x7 := ga.cell' (i := 7) rfl; have x8 := ga.cell' (i := 8) rfl))
  clear g0 hnew x0 x1 x2 x3 x4 x5 x6 x7 x8
  go_wp2
  go_loopw [5] (fun i wr => ∃ k : Nat, k ≤ L ∧ i = .int .i64 k ∧ Blk wr w.heap.size 35 [.int .i64 (P : Int), .int .i64 (L : Int), .int .i64 K, .slice pd L cd, .slice ph n ch, .int .i64 (-1), .int .i64 0, .int .i64 0, .slice pl 0 cl] ∧ Below w.heap.size w wr) (fun i _ => L - (intOf i).toNat)
  case atStart => exact ⟨0, Nat.zero_le _, rfl, ga, hb0⟩
  case round =>
    obtain ⟨k, hk, rfl, ja, hbk⟩ := hrel
    clear ga hb0
    have x3 := ja.cell' (i := 3) rfl
    by_cases hlt : k < L
    · have hki : (k : Int) < (L : Int) := by omega
      obtain ⟨b, o, rfl, hbl, hc⟩ := (hd.below hbk).at' (by omega)
      have e0 := hc k hlt
      have hx := hlo k hlt
      have hx2 : ¬ eI D k < -1 := by omega
      generalize eI D k = x at *
      clear hc
      go_wp2
      go_roundw
      case rel => exact ⟨k + 1, by omega, by go_num, ja, hbk⟩
      case measure => simp [intOf]; omega
    · obtain rfl : L = k := by omega
      have HL : Hid (L ≤ 256) := by show L ≤ 256; omega
      go_wp2
      clear x3
      go_loopw [6] (fun i wr => ∃ k : Nat, k ≤ n ∧ i = .int .i64 k ∧ Blk wr w.heap.size 35 [.int .i64 (P : Int), .int .i64 (L : Int), .int .i64 K, .slice pd L cd, .slice ph n ch, .int .i64 (-1), .int .i64 0, .int .i64 0, .slice pl 0 cl] ∧ Below w.heap.size w wr) (fun i _ => n - (intOf i).toNat)
      case atStart => exact ⟨0, Nat.zero_le _, rfl, ja, hbk⟩
      case round =>
        obtain ⟨k, hk, rfl, jb, hbj⟩ := hrel
        clear ja hbk
        have x4 := jb.cell' (i := 4) rfl
        by_cases hlt : k < n
        · have hki : (k : Int) < (n : Int) := by omega
          obtain ⟨b, o, rfl, hbl, hc⟩ := (hh.below hbj).at' (by omega)
          have e0 := hc k hlt
          have hv := hhv k hlt
          cases hb : eB H k with
          | false =>
            rw [hb] at e0
            clear hc hv
            go_upto_region 12 with (fail)
            go_quiet (fail)
            go_wp2
            go_roundw
            case rel => exact ⟨k + 1, by omega, by go_num, jb.drew, ⟨hbj.os, hbj.tape, hbj.output, hbj.size, hbj.block⟩⟩
            case measure => simp [intOf]; omega
          | true =>
            rw [hb] at e0
            have hv' := hv hb
            obtain ⟨m, HM2⟩ : ∃ m, Hid (m = k / P) := ⟨_, rfl⟩
            have hml : m < L := by rw [HM2.out]; exact (Nat.div_lt_iff_lt_mul (by omega)).2 (by rw [← HM.out]; exact hlt)
            rw [← HM2.out] at hv'
            have hlm := hlo m hml
            have x0 := jb.cell' (i := 0) rfl
            have x3 := jb.cell' (i := 3) rfl
            obtain ⟨b2, o2, rfl, hbl2, hc2⟩ := (hd.below hbj).at' (by omega)
            have e2 := hc2 m hml
            have hx0 : ¬ eI D m < 0 := by omega
            generalize eI D m = x at *
            have hp0 : ¬ (P : Int) = 0 := by omega
            have hq : (k : Int) / (P : Int) = (m : Int) := by rw [HM2.out]; rfl
            have hq2 : (k : Int).tdiv (P : Int) = (m : Int) := by rw [HM2.out]; rfl
            have hmI : (m : Int) < (L : Int) := by omega
            have hmb : (m : Int) ≤ 8192 := by omega
            clear hc hc2 hv
            go_upto_region 12 with (fail)
            go_quiet (fail)
            go_wp2
            go_roundw
            case rel => exact ⟨k + 1, by omega, by go_num, jb.drew, ⟨hbj.os, hbj.tape, hbj.output, hbj.size, hbj.block⟩⟩
            case measure => simp [intOf]; omega
        · obtain rfl : n = k := by omega
          have ga := jb
          have hb0 := hbj
          clear jb hbj x4
          have x0 := ga.cell' (i := 0) rfl; have x1 := ga.cell' (i := 1) rfl; have x2 := ga.cell' (i := 2) rfl; have x3 := ga.cell' (i := 3) rfl; have x4 := ga.cell' (i := 4) rfl; have x5 := ga.cell' (i := 5) rfl; have x6 := ga.cell' (i := 6) rfl; have x7 := ga.cell' (i := 7) rfl; have x8 := ga.cell' (i := 8) rfl
          go_upto_region 16 with (first | (go_at_call 26; refine (hsq _).mono ?_; rintro e w1 ⟨rfl, hb1⟩; replace ga := ga.kept hb1; replace hb0 := bt hb0 hb1; clear hb1 x0 x1 x2 x3 x4 x5 x6 x7 x8; have x0 := ga.cell' (i := 0) rfl; have x1 := ga.cell' (i := 1) rfl; have x2 := ga.cell' (i := 2) rfl; have x3 := ga.cell' (i := 3) rfl; have x4 := ga.cell' (i := 4) rfl; have x5 := ga.cell' (i := 5) rfl; have x6 := ga.cell' (i := 6) rfl; have x7 := ga.cell' (i := 7) rfl; have x8 := ga.cell' (i := 8) rfl) | (go_at_call 27; refine (hlg _).mono ?_; rintro e w2 ⟨rfl, hb2⟩; replace ga := ga.kept hb2; replace hb0 := bt hb0 hb2; clear hb2 x0 x1 x2 x3 x4 x5 x6 x7 x8; have x0 := ga.cell' (i := 0) rfl; have x1 := ga.cell' (i := 1) rfl; have x2 := ga.cell' (i := 2) rfl; have x3 := ga.cell' (i := 3) rfl; have x4 := ga.cell' (i := 4) rfl; have x5 := ga.cell' (i := 5) rfl; have x6 := ga.cell' (i := 6) rfl; have x7 := ga.cell' (i := 7) rfl; have x8 := ga.cell' (i := 8) rfl))
          obtain ⟨W5, HW5⟩ : ∃ W : World, W = w2 := ⟨_, rfl⟩
          rw [← HW5] at ga hb0 x0 x1 x2 x3 x4 x5 x6 x7 x8 ⊢
          clear HW5
          have gs := Blk.new W5 4 (valsB Z)
          replace ga := ga.alloc (.cells (valsB Z).toArray 4)
          have hbs := bt hb0 (below_alloc W5 (.cells (valsB Z).toArray 4))
          have hs5 := hb0.size
          clear hb0 x0 x1 x2 x3 x4 x5 x6 x7 x8
          go_upto_region 17 with (fail)
          obtain ⟨gS, HgS⟩ : ∃ g, g = W5.heap.size := ⟨_, rfl⟩
          rw [← HgS] at gs hs5 ⊢
          generalize W5.alloc (.cells (valsB Z).toArray 4) = W6 at *
          clear HgS hmk
          have x0 := ga.cell' (i := 0) rfl; have x1 := ga.cell' (i := 1) rfl; have x2 := ga.cell' (i := 2) rfl; have x3 := ga.cell' (i := 3) rfl; have x4 := ga.cell' (i := 4) rfl; have x5 := ga.cell' (i := 5) rfl; have x6 := ga.cell' (i := 6) rfl; have x7 := ga.cell' (i := 7) rfl; have x8 := ga.cell' (i := 8) rfl
          have hd6 := hd.below hbs
          go_upto_region 18 with (go_at_call 28; refine (hls _ hd6).mono ?_; rintro e w7 ⟨q, cq, rfl, ho, hb7⟩)
          replace gs := gs.kept hb7
          replace hbs := bt hbs hb7
          clear x0 x1 x2 x3 x4 x5 x6 x7 x8 ga hb7 hd6 hls
          obtain ⟨hnd, hur⟩ := hND
          have hUl := HUL.out
          obtain ⟨u, HU⟩ : ∃ u, Hid (U.length = u) := ⟨_, rfl⟩
          rw [HU.out] at ho hUl ⊢
          obtain ⟨p', c', e', hin⟩ := in_of_ownsI ho (by omega)
          cases e'
          have hgo : ∀ a, q = some a → a.block ≠ gS := fun a ha e => by subst ha; have := owns_blk ho; obtain ⟨c1, e1⟩ := this; rw [e, gs] at e1; cases e1
          go_wp2
          go_loopw [9] (fun i wr => ∃ k : Nat, k ≤ u ∧ i = .int .i64 k ∧ Blk wr gS 4 (valsB (markTo U k)) ∧ InI wr q u cq U ∧ Below w.heap.size w wr) (fun i _ => u - (intOf i).toNat)
          case atStart => exact ⟨0, Nat.zero_le _, rfl, by show Blk _ _ _ (valsB (List.replicate 256 false)); rw [HZ.out]; exact gs, hin, hbs⟩
          case round =>
            obtain ⟨k, hk, rfl, gk, ik, hbk⟩ := hrel
            clear gs hin hbs
            by_cases hlt : k < u
            · have hki : (k : Int) < (u : Int) := by omega
              obtain ⟨b, o, rfl, hbl, hc⟩ := ik.at' (by omega)
              have e0 := hc k hlt
              have hku : k < U.length := by rw [HU.out]; exact hlt
              have hr := hur k hku
              have hm := mark_no hnd hku hur
              have HS : Hid (markTo U (k + 1) = (markTo U k).set (eI U k).toNat true) := rfl
              have hml := markTo_length U k
              generalize markTo U k = S at *
              obtain ⟨x, hx⟩ : ∃ x : Nat, eI U k = (x : Int) := ⟨(eI U k).toNat, by omega⟩
              rw [hx, Int.toNat_natCast] at hm HS
              rw [hx] at e0 hr
              have hx2 : ¬ (256 : Int) ≤ (x : Int) := by omega
              have hx3 : (x : Int) < 256 := by omega
              have hcx := gk.cell' (valsB_get2 S x (by omega))
              rw [hm] at hcx
              have hfx := gk.frozen x
              have hbne := hgo _ rfl
              dsimp only at hbne
              clear hc hx hr
              go_wp2
              go_roundw
              case rel =>
                have tn := Turned.setCell wr ⟨gS, x, none⟩ (.bool true)
                dsimp only at tn
                refine ⟨k + 1, by omega, by go_num, ?_, ik.turnedI tn hbne, tn.below hbk (by omega)⟩
                rw [HS.out, ← valsB_set2]; exact gk.set x (.bool true)
              case measure => simp [intOf]; omega
            · obtain rfl : u = k := by omega
              go_wp2
              go_ret
              exact ⟨rfl, hbk⟩
end Go.Proofs.Ytfgelncfmopibab
