/-
  The reference's Needed.
-/
import Derived.Test.YtfgelncfmopibaaSnTabP
import Derived.Test.YtfgelncfmopibaaSnRNew
namespace Go.Proofs.Ytfgelncfmopibaa
open Go.RowKit
theorem valsB_set (l : List Bool) (i : Nat) (x : Bool) : (valsB l).set i (.bool x) = valsB (l.set i x) := by simp [valsB, List.map_set]
theorem valsB_get' (l : List Bool) (i : Nat) (h : i < l.length) : (valsB l)[i]? = some (.bool (eB l i)) := by simp [valsB, eB, h]
set_option linter.unusedSimpArgs false in
set_option maxRecDepth 100000 in
set_option maxHeartbeats 8000000 in
theorem neededR_any (p : Option Addr) (n c : Nat) (zs : List Pl) (w : World) (hz : InZ w p n c zs) (hn : n ≤ 1000000) :
    Calls Try.prog 28 #[.slice p n c] w fun e w' => ∃ p' c', e = .returned (.slice p' (neededL zs).length c') ∧ w'.ownsRow w.heap.size 3 1 (.slice p' (neededL zs).length c') (neededL zs).length (valsI (neededL zs)) ∧ Below w.heap.size w w' := by
  have HN : Hid (outTo (seenTo zs n) 256 = neededL zs) := by rw [← hz.len]; exact needed_ref zs
  have hnI : (n : Int) ≤ 1000000 := by omega
  obtain ⟨Z, HZ⟩ : ∃ Z : List Bool, Hid (List.replicate 256 false = Z) := ⟨_, rfl⟩
  have hmk : ∀ W : World, (Instr.makeSlice 51 (.int .i64 256) (.int .i64 256)).run Try.prog W = .ok (.slice (some ⟨W.heap.size, 0, none⟩) 256 256) (W.alloc (.cells (valsB Z).toArray 4)) := fun W => HZ.out ▸ make_bools 256 (by omega) W
  obtain ⟨i0, hi, hz0, hz1, hz2⟩ := info_parts infoI
  have g0 := Blk.new w 4 (valsB Z)
  have hb0 := below_alloc w (.cells (valsB Z).toArray 4)
  go_enter Try.func28, Try.ntmps28
  go_upto_region 2 with (fail)
  generalize w.alloc (.cells (valsB Z).toArray 4) = W0 at *
  clear hmk
  go_wp2
  go_loopw [4] (fun i wr => ∃ k : Nat, k ≤ n ∧ i = .int .i64 k ∧ Blk wr w.heap.size 4 (valsB (seenTo zs k)) ∧ Below w.heap.size w wr) (fun i _ => n - (intOf i).toNat)
  case atStart => exact ⟨0, Nat.zero_le _, rfl, by show Blk _ _ _ (valsB (List.replicate 256 false)); rw [HZ.out]; exact g0, hb0⟩
  case round =>
    obtain ⟨k, hk, rfl, gk, hbk⟩ := hrel
    clear g0 hb0
    by_cases hlt : k < n
    · have hki : (k : Int) < (n : Int) := by omega
      obtain ⟨b, o, rfl, hbl, hc⟩ := (hz.below hbk).at' (by omega)
      obtain ⟨e0, e1⟩ := hc k hlt
      have HS : Hid (seenTo zs (k + 1) = if isPl (eZ zs k) = true then (seenTo zs k).set (eZ zs k).ph.toNat true else seenTo zs k) := rfl
      have hsl := seenTo_length zs k
      generalize seenTo zs k = S at *
      have hpr : isPl (eZ zs k) = true → 0 ≤ (eZ zs k).ph ∧ (eZ zs k).ph < 256 := isPl_ph
      generalize eZ zs k = z at *
      obtain ⟨zh, zg⟩ := z
      dsimp only at e0 e1 HS hpr
      clear hc
      cases hp : isPl ⟨zh, zg⟩ with
      | false =>
        have HS' : Hid (seenTo zs (k + 1) = S) := HS.out.trans (by rw [hp]; rfl)
        clear HS hpr
        go_wp2_with (go_at_call 49; refine (is_any _ _ _).mono ?_; rintro e w1 ⟨rfl, hb1⟩)
        go_roundw
        case rel => exact ⟨k + 1, by omega, by go_num, by rw [HS'.out]; exact gk.kept hb1, bt hbk hb1⟩
        case measure => simp [intOf]; omega
      | true =>
        obtain ⟨hz1', hz2'⟩ := hpr hp
        obtain ⟨x, rfl⟩ : ∃ x : Nat, zh = (x : Int) := ⟨zh.toNat, by omega⟩
        have HS' : Hid (seenTo zs (k + 1) = S.set x true) := HS.out.trans (by rw [hp, Int.toNat_natCast]; rfl)
        have hx : x < S.length := by omega
        clear HS hpr
        go_wp2_with (go_at_call 49; refine (is_any _ _ _).mono ?_; rintro e w1 ⟨rfl, hb1⟩; have e0' := (hb1.cell (p := ⟨b, o + k * 2, none⟩) hbl).trans e0; have gk1 := gk.kept hb1; have hcx := gk1.cell' (valsB_get' S x hx); have hfx := gk1.frozen x)
        go_roundw
        case rel =>
          have tn := Turned.setCell w1 ⟨w.heap.size, x, none⟩ (.bool true)
          refine ⟨k + 1, by omega, by go_num, ?_, tn.below (bt hbk hb1) (Nat.le_refl _)⟩
          rw [HS'.out, ← valsB_set]; exact gk1.set x (.bool true)
        case measure => simp [intOf]; omega
    · obtain rfl : k = n := by omega
      have HS : Hid (seenTo zs k = seenTo zs k) := rfl
      have hsl := seenTo_length zs k
      generalize seenTo zs k = S at *
      clear hz
      go_wp2
      go_loopw [5, 6] (fun v i wr => ∃ (m : Nat) (q : Option Addr) (cq lq : Nat), m ≤ 256 ∧ i = .int .i64 m ∧ v = .slice q lq cq ∧ lq = (outTo S m).length ∧ wr.ownsRow (w.heap.size + 1) 3 1 (.slice q lq cq) lq (valsI (outTo S m)) ∧ Blk wr w.heap.size 4 (valsB S) ∧ Below w.heap.size w wr) (fun _ i _ => 256 - (intOf i).toNat)
      case atStart => exact ⟨0, none, 0, 0, by omega, rfl, rfl, rfl, ⟨rfl, .inl ⟨rfl, rfl⟩⟩, gk, hbk⟩
      case round =>
        obtain ⟨m, q, cq, lq, hm, rfl, rfl, hlq, hown, gm, hbm⟩ := hrel
        have hol := outTo_length S m
        by_cases hmt : m < 256
        · have hmi : (m : Int) < 256 := by omega
          have hcm := gm.cell' (valsB_get' S m (by omega))
          have HO : Hid (outTo S (m + 1) = if eB S m = true then outTo S m ++ [(m : Int)] else outTo S m) := rfl
          generalize outTo S m = O at *
          have HL : Hid (lq = O.length) := hlq
          have hlq2 : lq ≤ 256 := by omega
          clear hlq hol
          have hgl := gm.lt
          cases hb : eB S m with
          | false =>
            rw [hb] at hcm HO
            have HO' : Hid (outTo S (m + 1) = O) := HO.out
            clear HO
            go_wp2
            go_roundw
            case rel => exact ⟨m + 1, q, cq, lq, by omega, by go_num, rfl, by rw [HO'.out]; exact HL.out, by rw [HO'.out]; exact hown, gm, hbm⟩
            case measure => simp [intOf]; omega
          | true =>
            rw [hb] at hcm HO
            have HO' : Hid (outTo S (m + 1) = O ++ [(m : Int)]) := HO.out
            clear HO
            have HW : Hid (wr.ownsRow (w.heap.size + 1) 3 1 (.slice q lq cq) lq (valsI O)) := hown
            clear hown
            go_wp2_with (at_builtin; refine wpList_append_own _ rfl (.tmp 36) (.tmp 38) 50 rfl (w.heap.size + 1) 3 i0 (.int .i64 0) 1 8 Try.underlying50 hi hz0 hz1 hz2 rfl (by decide) (.slice q lq cq) lq (valsI O) rfl (HW.out.alloc _) ⟨wr.heap.size, 0, none⟩ 1 1 [.int .i64 (m : Int)] rfl rfl (new_one wr _) (by simp [Value.oneCell']) (by unfold maxLen; omega) (by omega) (by rw [World.size_alloc]; omega) ?_; intro v1 w1 hown1 hgrow1 _; obtain ⟨q', cq', hv⟩ := owns_slice hown1; subst hv)
            go_roundw
            case rel =>
              have hb3 : Below w.heap.size w w1 := (bt hbm (below_alloc wr _)).grown hgrow1 (by rw [World.size_alloc]; have := hbm.size; omega) (fun k' hk' => by have := (HW.out.lt k' hk').1; omega)
              have g3 := (gm.kept (below_alloc wr (.cells #[.int .i64 (m : Int)] 3))).grown' hgrow1 (fun k' hk' => (HW.out.lt k' hk').1) (by omega)
              have e : valsI O ++ [.int .i64 (m : Int)] = valsI (outTo S (m + 1)) := by rw [HO'.out]; simp [valsI]
              rw [e] at hown1
              exact ⟨m + 1, q', cq', lq + 1, by omega, by go_num, rfl, by rw [HO'.out, List.length_append, HL.out]; rfl, hown1, g3, hb3⟩
            case measure => simp [intOf]; omega
        · obtain rfl : m = 256 := by omega
          subst hlq
          have HW : Hid (wr.ownsRow (w.heap.size + 1) 3 1 (.slice q (outTo S 256).length cq) (outTo S 256).length (valsI (outTo S 256))) := hown
          clear hown
          rw [HN.out] at HW hol
          have hol2 : (neededL zs).length ≤ 256 := hol
          rw [HN.out]
          obtain ⟨X, HX0⟩ : ∃ X, neededL zs = X := ⟨_, rfl⟩
          rw [HX0] at HW hol2 ⊢
          have HX : Hid (neededL zs = X) := HX0
          clear HX0 hol HN
          go_wp2
          go_ret
          exact ⟨q, cq, by rw [HX.out] <;> rfl, by rw [HX.out]; exact owns_low HW.out (Nat.le_succ _), hbm⟩
end Go.Proofs.Ytfgelncfmopibaa
