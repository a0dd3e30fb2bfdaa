/-
  What slipwayref01's Pack answers.
-/
import Derived.Test.YtgeomfgfeemciaaRefWidth
import Derived.Deep.RegionHeld3
namespace Go.Proofs.Ytgeomfgfeemciaa
open Go.RowKit
theorem put_val64 {ys : List Nat} (hy : ∀ x ∈ ys, x < 256) (j v s t : Nat) (hv : v < 18446744073709551616) (ht : t ≤ 7) :
    bits .or .u8 (el ys j) (bits .and .u64 ((v : Int) / 2 ^ s) 1 % 256 * 2 ^ t % 256) = ((ys.getD j 0 ||| (if v.testBit s then 2 ^ t else 0) : Nat) : Int) := by
  have hp := pow7 t ht
  have hr := el_range hy j
  have hd : v / 2 ^ s < 18446744073709551616 := Nat.lt_of_le_of_lt (Nat.div_le_self _ _) hv
  have e0 : bits .and .u64 ((v : Int) / 2 ^ s) 1 = ((if v.testBit s then 1 else 0 : Nat) : Int) := by
    rw [shr_nat, show (1 : Int) = ((1 : Nat) : Int) from rfl, bits_and_u64_nat _ _ hd (by decide), Nat.and_one_is_mod, Nat.testBit_eq_decide_div_mod_eq]
    by_cases h : v / 2 ^ s % 2 = 1
    · rw [if_pos (by simpa using h)]; omega
    · rw [if_neg (by simpa using h)]; omega
  have e : (bits .and .u64 ((v : Int) / 2 ^ s) 1 % 256 * 2 ^ t % 256) = (((if v.testBit s then 2 ^ t else 0 : Nat)) : Int) := by
    rw [e0]
    have e2 : ((2 : Int) ^ t) = ((2 ^ t : Nat) : Int) := by simp
    cases v.testBit s with
    | true =>
      rw [e2]
      generalize 2 ^ t = T at hp ⊢
      simp only [if_true]
      rw [show ((1 : Nat) : Int) % 256 * (T : Int) = (T : Int) from by simp]
      omega
    | false => simp
  rw [e]
  have hl : (if v.testBit s then 2 ^ t else 0) < 256 := by split <;> omega
  have h2 : ys.getD j 0 < 256 := by unfold el at hr; omega
  exact u8_or_nat _ _ h2 hl
set_option maxHeartbeats 1000000 in
set_option maxRecDepth 100000 in
theorem refPack_owns (p q : Option Addr) (n c m d : Nat) (ws : List Int) (vs : List Nat) (w : World) (hx : InI w p n c ws) (hy : In64 w q m d vs) :
    Calls Try.prog 31 #[.slice p n c, .slice q m d] w fun e w' => ∃ v n', e = .returned (.tuple #[v, .int .i64 (packE ws vs)]) ∧ w'.ownsRow w.heap.size 5 1 v n' (vals (packL ws vs)) ∧ (∀ x ∈ packL ws vs, x < 256) ∧ n' ≤ 512 ∧ Below w.heap.size w w' := by
  have hroom := hx.room
  have HX : Hid (ws.length = n) := hx.len
  have HY : Hid (vs.length = m) := hy.len
  obtain ⟨i0, hi, hz0, hz1, hz2⟩ := info_parts info5
  cases hok : widthOk ws with
  | false =>
    have e1 : packE ws vs = 1 := by unfold packE packOk; rw [hok]; rfl
    have e2 : packL ws vs = [] := by unfold packL packOk; rw [hok]; rfl
    rw [e1, e2]
    have HO : Hid (widthOk ws = false) := hok
    clear e1 e2 hok
    go_enter Try.func31, Try.ntmps31
    go_wp2_with (go_at_call 50; refine (refWidth_no p n c ws w hx HO.out).mono ?_; rintro e w' ⟨rfl, hw'⟩; have hw2 := hw'.symm; subst hw2; clear hw')
    go_ret2
    exact ⟨_, 0, rfl, World.ownsRow_nil _ _ _ _, fun x h => by simp at h, by omega, Below.refl _ _⟩
  | true =>
    have hN := (widthN_ok hok).2
    by_cases hnm : m = n
    · subst hnm
      have HO : Hid (widthOk ws = true) := hok
      clear hok
      go_enter Try.func31, Try.ntmps31
      go_wp2_with (first
        | (go_at_call 50; refine (refWidth_ok p _ c ws w hx HO.out).mono ?_; rintro e w' ⟨rfl, hw'⟩; have hw2 := hw'.symm; subst hw2; clear hw')
        | (at_make; refine wpList_make_full _ rfl _ _ 25 rfl w.heap.size 5 i0 (.int .u8 0) 1 Try.underlying25 hi hz0 hz1 .i64 .i64 _ _ (bytesW ws) rfl rfl rfl rfl (by rw [hz2]; omega) (by unfold maxLen; omega) (Nat.le_refl _) ?_; intro w1 hown1 hgrow1))
      have hown2 := made_owns hown1
      have hbel2 := below_grown0 hgrow1
      clear hown1 hgrow1
      go_loopw [9, 10] (fun a i wr => ∃ k : Nat, k ≤ m ∧ i = .int .i64 k ∧ a = .int .i64 (atW ws k) ∧ wr.ownsRow w.heap.size 5 1 (.slice (some ⟨w.heap.size, 0, none⟩) (bytesW ws) (bytesW ws)) (bytesW ws) (vals (packTo ws vs (List.replicate (bytesW ws) 0) k)) ∧ Below w.heap.size w wr ∧ ∀ j, j < k → vs.getD j 0 < 2 ^ (eI ws j).toNat) (fun _ i _ => m - (intOf i).toNat)
      case atStart => exact ⟨0, Nat.zero_le _, rfl, val_int (by rw [atW_zero]; rfl), hown2, hbel2, fun j h => by omega⟩
      case round =>
        obtain ⟨k, hk, rfl, rfl, hown, hbel, hall⟩ := hrel
        have HA : Hid (∀ j, j < k → vs.getD j 0 < 2 ^ (eI ws j).toNat) := hall
        clear hown2 hbel2 hall
        have hat := (atW_cast HO.out k (by rw [HX.out]; exact hk)).2
        by_cases hlt : k < m
        · obtain ⟨b, o, rfl, hb', hc⟩ := hx.at' (by omega)
          obtain ⟨b', o', rfl, hb'', hc'⟩ := hy.at' (by omega)
          obtain ⟨hs, hw1, hw2, he⟩ := atW_succ HO.out k (by rw [HX.out]; exact hlt)
          have HS : Hid (atW ws (k + 1) = atW ws k + (eI ws k).toNat) := hs
          have hck : wr.cell? ⟨b, o + k, none⟩ = some (.int .i64 ((eI ws k).toNat : Int)) := by rw [← he]; exact (hbel.cell (p := ⟨b, o + k, none⟩) hb').trans (hc k hlt)
          have hck' : wr.cell? ⟨b', o' + k, none⟩ = some (.int .u64 ((vs.getD k 0 : Nat) : Int)) := (hbel.cell (p := ⟨b', o' + k, none⟩) hb'').trans (hc' k (by omega))
          have HCW : Hid (w.cell? ⟨b', o' + k, none⟩ = some (.int .u64 ((vs.getD k 0 : Nat) : Int))) := hc' k (by omega)
          have hv : vs.getD k 0 < 18446744073709551616 := by have := el_range64 hy.lim k; unfold el at this; omega
          have hmono := atW_mono HO.out (ws.length - (k + 1)) (k + 1) (by rw [HX.out]; omega)
          rw [show k + 1 + (ws.length - (k + 1)) = ws.length from by rw [HX.out]; omega, hs] at hmono
          have hfit : atW ws k + (eI ws k).toNat ≤ 8 * bytesW ws := by unfold bytesW; omega
          have HP : Hid (packTo ws vs (List.replicate (bytesW ws) 0) (k + 1) = setTo (packTo ws vs (List.replicate (bytesW ws) 0) k) (atW ws k) (eI ws k).toNat (vs.getD k 0) (eI ws k).toNat) := rfl
          by_cases hf : vs.getD k 0 < 2 ^ (eI ws k).toNat
          · have HF : Hid (∀ j, j < k + 1 → vs.getD j 0 < 2 ^ (eI ws j).toNat) := by
              intro j hj
              rcases Nat.lt_succ_iff_lt_or_eq.1 hj with h | h
              · exact HA.out j h
              · rw [h]; exact hf
            clear hs he hc hc' hmono
            generalize (eI ws k).toNat = W at *
            generalize vs.getD k 0 = V at *
            by_cases hW : W < 64
            · have hd : decide ((W : Int) < 64) = true := by simp; omega
              have hz : ((V : Int) / 2 ^ W != 0) = false := by rw [shr_fit]; simpa using hf
              clear hf
              go_wp2
              go_quiet (fail)
              go_wp2
              go_loopw [9, 11] (fun a i wr' => ∃ t : Nat, t ≤ W ∧ i = .int .i64 ((W : Int) - 1 - t) ∧ a = .int .i64 ((atW ws k + t : Nat) : Int) ∧ wr'.ownsRow w.heap.size 5 1 (.slice (some ⟨w.heap.size, 0, none⟩) (bytesW ws) (bytesW ws)) (bytesW ws) (vals (setTo (packTo ws vs (List.replicate (bytesW ws) 0) k) (atW ws k) W V t)) ∧ Below w.heap.size w wr') (fun _ i _ => (intOf i + 1).toNat)
              case atStart => exact ⟨0, Nat.zero_le _, by go_num, rfl, by exact hown, below_drewN hbel _⟩
              case round =>
                obtain ⟨t, ht, rfl, rfl, hown', hbel'⟩ := hrel
                clear hck hck' hz
                by_cases htl : t < W
                · have hq : (atW ws k + t) / 8 < bytesW ws := by omega
                  have hlen : (setTo (packTo ws vs (List.replicate (bytesW ws) 0) k) (atW ws k) W V t).length = bytesW ws := by rw [setTo_length, packTo_length, List.length_replicate]
                  have hc1 : wr.cell? ⟨w.heap.size, (atW ws k + t) / 8, none⟩ = some (.int .u8 (el (setTo (packTo ws vs (List.replicate (bytesW ws) 0) k) (atW ws k) W V t) ((atW ws k + t) / 8))) := by
                    rw [hown'.cellAt _ (by omega), vals_get _ _ (by rw [hlen]; exact hq)]
                  have hf1 : wr.frozen? ⟨w.heap.size, (atW ws k + t) / 8, none⟩ = false := hown'.frozenAt _
                  have hc2 : wr.cell? ⟨b', o' + k, none⟩ = some (.int .u64 (V : Int)) := (hbel'.cell (p := ⟨b', o' + k, none⟩) hb'').trans HCW.out
                  clear hlen
                  go_wp2
                  go_region
                  all_goals (try go_wp2)
                  all_goals
                    go_roundw
                    case rel =>
                      have hby : ∀ x ∈ setTo (packTo ws vs (List.replicate (bytesW ws) 0) k) (atW ws k) W V t, x < 256 := setTo_byte (packTo_byte (fun x hx => by rw [List.eq_of_mem_replicate hx]; decide) k) _ _ _ _
                      have hpv := put_val64 hby ((atW ws k + t) / 8) V (W - 1 - t) (7 - (atW ws k + t) % 8) hv (by omega)
                      have hst := hown'.stored ((atW ws k + t) / 8) (.int .u8 (bits .or .u8 (el (setTo (packTo ws vs (List.replicate (bytesW ws) 0) k) (atW ws k) W V t) ((atW ws k + t) / 8)) (bits .and .u64 ((V : Int) / 2 ^ (W - 1 - t)) 1 % 256 * 2 ^ (7 - (atW ws k + t) % 8) % 256)))
                      refine ⟨t + 1, by omega, val_int (by omega), val_int (by omega), ?_, (hbel'.setCell (p := ⟨w.heap.size, (atW ws k + t) / 8, none⟩) (Nat.le_refl _) _).drew⟩
                      have hs := hst.1.drew
                      rw [setTo, orAt, vals_set, ← hpv]
                      exact hs
                    case measure => simp [intOf]; omega
                · have htW : t = W := by omega
                  subst htW
                  go_wp2
                  go_roundw
                  case rel => exact ⟨k + 1, by omega, by go_num, val_int (by rw [HS.out]), by rw [HP.out]; exact hown', hbel', HF.out⟩
                  case measure => simp [intOf]; omega
            · have hd : decide ((W : Int) < 64) = false := by simp; omega
              have hz : True := trivial
              clear hf
              go_wp2
              go_quiet (fail)
              go_wp2
              go_loopw [9, 11] (fun a i wr' => ∃ t : Nat, t ≤ W ∧ i = .int .i64 ((W : Int) - 1 - t) ∧ a = .int .i64 ((atW ws k + t : Nat) : Int) ∧ wr'.ownsRow w.heap.size 5 1 (.slice (some ⟨w.heap.size, 0, none⟩) (bytesW ws) (bytesW ws)) (bytesW ws) (vals (setTo (packTo ws vs (List.replicate (bytesW ws) 0) k) (atW ws k) W V t)) ∧ Below w.heap.size w wr') (fun _ i _ => (intOf i + 1).toNat)
              case atStart => exact ⟨0, Nat.zero_le _, by go_num, rfl, by exact hown, below_drewN hbel _⟩
              case round =>
                obtain ⟨t, ht, rfl, rfl, hown', hbel'⟩ := hrel
                clear hck hck' hz
                by_cases htl : t < W
                · have hq : (atW ws k + t) / 8 < bytesW ws := by omega
                  have hlen : (setTo (packTo ws vs (List.replicate (bytesW ws) 0) k) (atW ws k) W V t).length = bytesW ws := by rw [setTo_length, packTo_length, List.length_replicate]
                  have hc1 : wr.cell? ⟨w.heap.size, (atW ws k + t) / 8, none⟩ = some (.int .u8 (el (setTo (packTo ws vs (List.replicate (bytesW ws) 0) k) (atW ws k) W V t) ((atW ws k + t) / 8))) := by
                    rw [hown'.cellAt _ (by omega), vals_get _ _ (by rw [hlen]; exact hq)]
                  have hf1 : wr.frozen? ⟨w.heap.size, (atW ws k + t) / 8, none⟩ = false := hown'.frozenAt _
                  have hc2 : wr.cell? ⟨b', o' + k, none⟩ = some (.int .u64 (V : Int)) := (hbel'.cell (p := ⟨b', o' + k, none⟩) hb'').trans HCW.out
                  clear hlen
                  go_wp2
                  go_region
                  all_goals (try go_wp2)
                  all_goals
                    go_roundw
                    case rel =>
                      have hby : ∀ x ∈ setTo (packTo ws vs (List.replicate (bytesW ws) 0) k) (atW ws k) W V t, x < 256 := setTo_byte (packTo_byte (fun x hx => by rw [List.eq_of_mem_replicate hx]; decide) k) _ _ _ _
                      have hpv := put_val64 hby ((atW ws k + t) / 8) V (W - 1 - t) (7 - (atW ws k + t) % 8) hv (by omega)
                      have hst := hown'.stored ((atW ws k + t) / 8) (.int .u8 (bits .or .u8 (el (setTo (packTo ws vs (List.replicate (bytesW ws) 0) k) (atW ws k) W V t) ((atW ws k + t) / 8)) (bits .and .u64 ((V : Int) / 2 ^ (W - 1 - t)) 1 % 256 * 2 ^ (7 - (atW ws k + t) % 8) % 256)))
                      refine ⟨t + 1, by omega, val_int (by omega), val_int (by omega), ?_, (hbel'.setCell (p := ⟨w.heap.size, (atW ws k + t) / 8, none⟩) (Nat.le_refl _) _).drew⟩
                      have hs := hst.1.drew
                      rw [setTo, orAt, vals_set, ← hpv]
                      exact hs
                    case measure => simp [intOf]; omega
                · have htW : t = W := by omega
                  subst htW
                  go_wp2
                  go_roundw
                  case rel => exact ⟨k + 1, by omega, by go_num, val_int (by rw [HS.out]), by rw [HP.out]; exact hown', hbel', HF.out⟩
                  case measure => simp [intOf]; omega
          · have hW : (eI ws k).toNat < 64 := by
              rcases Nat.lt_or_ge (eI ws k).toNat 64 with h | h
              · exact h
              · have e64 : (eI ws k).toNat = 64 := by omega
                rw [e64] at hf
                exact absurd (by omega) hf
            have hfb : fitB ws vs = false := by
              cases hq : fitB ws vs with
              | false => rfl
              | true => exact absurd (((fitB_iff ws vs).1 hq).2 k (by rw [HX.out]; exact hlt)) hf
            have E1 : Hid (packE ws vs = 1) := by show _ = _; unfold packE packOk; rw [HO.out, hfb]; rfl
            have E2 : Hid (packL ws vs = []) := by show _ = _; unfold packL packOk; rw [HO.out, hfb]; rfl
            clear hs he hc hc' hmono HP hfb HCW HS
            generalize (eI ws k).toNat = W at *
            generalize vs.getD k 0 = V at *
            have hd : decide ((W : Int) < 64) = true := by simp; omega
            have hz : ((V : Int) / 2 ^ W != 0) = true := by rw [shr_fit]; simpa using hf
            clear hf
            go_wp2
            go_quiet (fail)
            go_wp2
            go_ret2
            rw [E1.out, E2.out]
            exact ⟨_, 0, rfl, World.ownsRow_nil _ _ _ _, fun x h => by simp at h, by omega, below_drewN hbel _⟩
        · have hkm : k = ws.length := by have := HX.out; omega
          have hfb : fitB ws vs = true := (fitB_iff ws vs).2 ⟨by rw [HX.out, HY.out], fun i hi => HA.out i (by omega)⟩
          have E1 : Hid (packE ws vs = 0) := by show _ = _; unfold packE packOk; rw [HO.out, hfb]; rfl
          have E2 : Hid (packL ws vs = packTo ws vs (List.replicate (bytesW ws) 0) ws.length) := by show _ = _; unfold packL packOk; rw [HO.out, hfb]; rfl
          rw [hkm] at hown
          clear hkm hfb
          go_wp2
          go_ret2
          rw [E1.out, E2.out]
          exact ⟨_, _, rfl, hown, packTo_byte (fun x hx => by rw [List.eq_of_mem_replicate hx]; decide) _, hN, hbel⟩
    · have hne : ((m : Int) != (n : Int)) = true := by rw [bne_iff_ne]; omega
      have hfb : fitB ws vs = false := by
        cases hq : fitB ws vs with
        | false => rfl
        | true => have := ((fitB_iff ws vs).1 hq).1; rw [HX.out, HY.out] at this; exact absurd this.symm hnm
      have e1 : packE ws vs = 1 := by unfold packE packOk; rw [hfb, Bool.and_false]; rfl
      have e2 : packL ws vs = [] := by unfold packL packOk; rw [hfb, Bool.and_false]; rfl
      rw [e1, e2]
      have HO : Hid (widthOk ws = true) := hok
      clear e1 e2 hok hfb hnm
      go_enter Try.func31, Try.ntmps31
      go_wp2_with (go_at_call 50; refine (refWidth_ok p n c ws w hx HO.out).mono ?_; rintro e w' ⟨rfl, hw'⟩; have hw2 := hw'.symm; subst hw2; clear hw')
      go_ret2
      exact ⟨_, 0, rfl, World.ownsRow_nil _ _ _ _, fun x h => by simp at h, by omega, Below.refl _ _⟩
theorem refPack_any (p q : Option Addr) (n c m d : Nat) (ws : List Int) (vs : List Nat) (w : World) (hx : InI w p n c ws) (hy : In64 w q m d vs) :
    Calls Try.prog 31 #[.slice p n c, .slice q m d] w fun e w' => ∃ p' n' c', e = .returned (.tuple #[.slice p' n' c', .int .i64 (packE ws vs)]) ∧ In w' p' n' c' (packL ws vs) ∧ Below w.heap.size w w' := by
  refine (refPack_owns p q n c m d ws vs w hx hy).mono ?_
  rintro e w' ⟨v, n', rfl, hown, hb, hn, hbel⟩
  obtain ⟨p', c', rfl, hin⟩ := in_of_owns hown hb (by omega)
  exact ⟨p', n', c', rfl, hin, hbel⟩
end Go.Proofs.Ytgeomfgfeemciaa
