/-
  What slipwayref01's Unpack answers lies in a new block.
-/
import Derived.Test.YtgeomfgfeemciaaRefUnpack
namespace Go.Proofs.Ytgeomfgfeemciaa
open Go.RowKit
theorem owns_newR {w : World} {B : Nat} {e : TypeId} {z : Nat} {p : Option Addr} {m n c : Nat} {xs : List Value} (h : w.ownsRow B e z (.slice p m c) n xs) : ∀ a, p = some a → B ≤ a.block := by
  intro a ha
  subst ha
  rcases h.2 with ⟨h, _⟩ | ⟨g, cap, cur, h, hg, _⟩
  · cases h
  · cases h; exact hg
set_option maxHeartbeats 1000000 in
set_option maxRecDepth 100000 in
theorem refUnpack_fresh (p q : Option Addr) (n c m d : Nat) (ws : List Int) (xs : List Nat) (w : World) (hx : InI w p n c ws) (hy : In w q m d xs) :
    Calls Try.prog 35 #[.slice p n c, .slice q m d] w fun e w' => ∃ p' n' c', e = .returned (.tuple #[.slice p' n' c', .int .i64 (unpackE ws xs)]) ∧ In64 w' p' n' c' (unpackL ws xs) ∧ Below w.heap.size w w' ∧ ∀ a, p' = some a → w.heap.size ≤ a.block := by
  have hroom := hx.room
  have hroomm := hy.room
  have HX : Hid (ws.length = n) := hx.len
  have HY : Hid (xs.length = m) := hy.len
  obtain ⟨i0, hi, hz0, hz1, hz2⟩ := info_parts info64
  cases hok : widthOk ws with
  | false =>
    have e1 : unpackE ws xs = 1 := by unfold unpackE; rw [if_pos hok]
    have e2 : unpackL ws xs = [] := by unfold unpackL; rw [e1]; rfl
    rw [e1, e2]
    have HO : Hid (widthOk ws = false) := hok
    clear e1 e2 hok
    go_enter Try.func35, Try.ntmps35
    go_wp2_with (go_at_call 50; refine (refWidth_no p n c ws w hx HO.out).mono ?_; rintro e w' ⟨rfl, hw'⟩; have hw2 := hw'.symm; subst hw2; clear hw')
    go_ret2
    exact ⟨_, _, _, rfl, In64.empty _, Below.refl _ _, fun a h => by cases h⟩
  | true =>
    have hN := (widthN_ok hok).2
    have hl64 := widthOk_len hok
    rw [HX.out] at hl64
    have hnf : ¬ widthOk ws = false := by rw [hok]; simp
    by_cases hm : m = bytesW ws
    · have hb1 : ((m : Int) != (bytesW ws : Int)) = false := by rw [hm]; simp
      have hat := (atW_cast hok ws.length (Nat.le_refl _)).2
      rw [HX.out] at hat
      have htl : 8 * bytesW ws - atW ws n ≤ 64 ∧ atW ws n ≤ 8 * bytesW ws := by
        unfold bytesW; rw [HX.out]; omega
      have HO : Hid (widthOk ws = true) := hok
      have HM : Hid (m = bytesW ws) := hm
      have hmb : 8 * bytesW ws ≤ 8 * m := by omega
      have HLn : Hid ((valsTo ws xs ws.length).length = n) := by show _ = _; rw [valsTo_length]; exact hx.len
      clear hok hm
      go_enter Try.func35, Try.ntmps35
      go_wp2_with (go_at_call 50; refine (refWidth_ok p n c ws w hx HO.out).mono ?_; rintro e w' ⟨rfl, hw'⟩; have hw2 := hw'.symm; subst hw2; clear hw')
      go_loopw [8, 9, 10] (fun v a i wr => ∃ k : Nat, k ≤ n ∧ i = .int .i64 k ∧ a = .int .i64 (atW ws k) ∧ wr.ownsRow w.heap.size 54 1 v k (vals64 ((valsTo ws xs ws.length).take k)) ∧ Below w.heap.size w wr) (fun _ _ i _ => n - (intOf i).toNat)
      case atStart => exact ⟨0, Nat.zero_le _, rfl, val_int (by rw [atW_zero]; rfl), World.ownsRow_nil _ _ _ _, Below.refl _ _⟩
      case round =>
        obtain ⟨k, hk, rfl, rfl, hown, hbel⟩ := hrel
        have hatk := (atW_cast HO.out k (by rw [HX.out]; exact hk)).2
        by_cases hlt : k < n
        · obtain ⟨b, o, rfl, hb', hc⟩ := hx.at' (by omega)
          obtain ⟨hs, hw1, hw2, he⟩ := atW_succ HO.out k (by rw [HX.out]; exact hlt)
          have HS : Hid (atW ws (k + 1) = atW ws k + (eI ws k).toNat) := hs
          have hck : wr.cell? ⟨b, o + k, none⟩ = some (.int .i64 ((eI ws k).toNat : Int)) := by rw [← he]; exact (hbel.cell (p := ⟨b, o + k, none⟩) hb').trans (hc k hlt)
          have hmono := atW_mono HO.out (ws.length - (k + 1)) (k + 1) (by rw [HX.out]; omega)
          rw [show k + 1 + (ws.length - (k + 1)) = ws.length from by rw [HX.out]; omega, hs, HX.out] at hmono
          have hfit : atW ws k + (eI ws k).toNat ≤ 8 * m := by omega
          have HV : Hid (el (valsTo ws xs ws.length) k = ((getN xs (atW ws k) (eI ws k).toNat : Nat) : Int)) := by
            show _ = _
            unfold el; rw [valsTo_getD ws xs k (by rw [HX.out]; exact hlt)]
          clear hs he hc hmono
          generalize (eI ws k).toNat = W at *
          go_wp2
          go_loop [9, 11, 12] (fun a v i => ∃ t : Nat, t ≤ W ∧ i = .int .i64 t ∧ a = .int .i64 ((atW ws k + t : Nat) : Int) ∧ v = .int .u64 (getN xs (atW ws k) t)) (fun _ _ i => W - (intOf i).toNat)
          case atStart => exact ⟨0, Nat.zero_le _, rfl, rfl, rfl⟩
          case round =>
            obtain ⟨t, ht, rfl, rfl, rfl⟩ := hrel
            by_cases htl : t < W
            · have hq8 : (atW ws k + t) / 8 < m := by omega
              obtain ⟨b2, o2, rfl, hb2, hc2⟩ := hy.at' (by omega)
              have hcc : wr.cell? ⟨b2, o2 + (atW ws k + t) / 8, none⟩ = some (.int .u8 (el xs ((atW ws k + t) / 8))) := (hbel.cell (p := ⟨b2, o2 + (atW ws k + t) / 8, none⟩) hb2).trans (hc2 _ hq8)
              have hg := getN_63 xs (atW ws k) t (by omega)
              have HG : Hid (bits .or .u64 ((getN xs (atW ws k) t : Int) * 2) (IntKind.u64.wrap (bits .and .u8 (el xs ((atW ws k + t) / 8) / 2 ^ (7 - (atW ws k + t) % 8)) 1)) = ((getN xs (atW ws k) (t + 1) : Nat) : Int)) := get_step xs hy.byte (atW ws k) t (by omega)
              clear hc2
              go_wp2
              go_round
              case rel => exact ⟨t + 1, by omega, by go_num, val_int (by omega), val_int HG.out⟩
              case measure => simp [intOf]; omega
            · have htW : t = W := by omega
              subst htW
              go_wp2_with (at_builtin; refine wpList_append_own _ rfl (.tmp 56) (.tmp 58) 59 rfl w.heap.size 54 i0 (.int .u64 0) 1 8 Try.underlying59 hi hz0 hz1 hz2 rfl (by decide) _ _ _ rfl (hown.alloc _) ⟨wr.heap.size, 0, none⟩ 1 1 [.int .u64 ((getN xs (atW ws k) t : Nat) : Int)] rfl rfl (one_cell_at64 _ _) (by intro u hu; simp at hu; subst hu; rfl) (by unfold maxLen; omega) (by omega) (by have := hbel.size; simp; omega) ?_; intro v1 w1 hown1 hgrow1 _)
              have hb1' := below_app hbel (Nat.le_refl _) hown hgrow1
              rw [← HV.out, vals64_snoc _ _ (by rw [HLn.out]; exact hlt)] at hown1
              clear hgrow1 hown
              go_roundw
              case rel => exact ⟨k + 1, by omega, by go_num, val_int (by rw [HS.out]; omega), hown1, hb1'⟩
              case measure => simp [intOf]; omega
        · have hkn : k = n := by omega
          subst hkn
          have HT := tail_iff ws xs
          have HTT : Hid (tailN ws xs = 0 ↔ ∀ t, t < 8 * bytesW ws - atW ws k → bitAt xs (atW ws k + t) = false) := by show _ ↔ _; rw [HX.out] at HT; exact HT
          have hown9 := hown
          rw [List.take_of_length_le (by rw [HLn.out]; exact Nat.le_refl _)] at hown9
          have HOW : Hid (wr.ownsRow w.heap.size 54 1 u8 k (vals64 (valsTo ws xs ws.length))) := hown9
          clear HT hown hown9
          go_wp2
          go_loop [9] (fun a => ∃ t : Nat, t ≤ 8 * bytesW ws - atW ws k ∧ a = .int .i64 ((atW ws k + t : Nat) : Int) ∧ ∀ s, s < t → bitAt xs (atW ws k + s) = false) (fun a => (8 * (bytesW ws : Int) - intOf a).toNat)
          case atStart => exact ⟨0, Nat.zero_le _, rfl, fun s h => by omega⟩
          case round =>
            obtain ⟨t, ht, rfl, hall⟩ := hrel
            have HA : Hid (∀ s, s < t → bitAt xs (atW ws k + s) = false) := hall
            clear hall
            by_cases htl' : t < 8 * bytesW ws - atW ws k
            · have hq8 : (atW ws k + t) / 8 < m := by omega
              obtain ⟨b2, o2, rfl, hb2, hc2⟩ := hy.at' (by omega)
              have hcc : wr.cell? ⟨b2, o2 + (atW ws k + t) / 8, none⟩ = some (.int .u8 (el xs ((atW ws k + t) / 8))) := (hbel.cell (p := ⟨b2, o2 + (atW ws k + t) / 8, none⟩) hb2).trans (hc2 _ hq8)
              have HB : Hid (bits .and .u8 (el xs ((atW ws k + t) / 8) / 2 ^ (7 - (atW ws k + t) % 8)) 1 = ((bn (bitAt xs (atW ws k + t)) : Nat) : Int)) := by
                show _ = _
                have hr := el_range hy.byte ((atW ws k + t) / 8)
                unfold el at hr ⊢
                exact get_bit _ _ (by omega)
              clear hc2
              cases hq : bitAt xs (atW ws k + t) with
              | true =>
                have hbt : (bits .and .u8 (el xs ((atW ws k + t) / 8) / 2 ^ (7 - (atW ws k + t) % 8)) 1 != 0) = true := by rw [HB.out, hq]; rfl
                have hne : ¬ tailN ws xs = 0 := fun h => by have := HTT.out.1 h t htl'; rw [hq] at this; simp at this
                have E1 : Hid (unpackE ws xs = 1) := by show _ = _; unfold unpackE; rw [if_neg hnf, if_neg (by rw [HY.out, HM.out]; simp), if_pos hne]
                have E2 : Hid (unpackL ws xs = []) := by show _ = _; unfold unpackL; rw [E1.out]; rfl
                clear hne hq
                go_wp2
                go_ret2
                rw [E1.out, E2.out]
                exact ⟨_, _, _, rfl, In64.empty _, hbel, fun a h => by cases h⟩
              | false =>
                have hbt : (bits .and .u8 (el xs ((atW ws k + t) / 8) / 2 ^ (7 - (atW ws k + t) % 8)) 1 != 0) = false := by rw [HB.out, hq]; rfl
                have HQ : Hid (bitAt xs (atW ws k + t) = false) := hq
                clear hq
                go_wp2
                go_round
                case rel =>
                  refine ⟨t + 1, by omega, val_int (by omega), fun s hs => ?_⟩
                  rcases Nat.lt_succ_iff_lt_or_eq.1 hs with h | h
                  · exact HA.out s h
                  · rw [h]; exact HQ.out
                case measure => simp [intOf]; omega
            · have hz : tailN ws xs = 0 := HTT.out.2 fun s hs => HA.out s (by omega)
              have E1 : Hid (unpackE ws xs = 0) := by show _ = _; unfold unpackE; rw [if_neg hnf, if_neg (by rw [HY.out, HM.out]; simp), if_neg (by rw [hz]; simp)]
              have E2 : Hid (unpackL ws xs = valsTo ws xs ws.length) := by show _ = _; unfold unpackL; rw [if_pos E1.out]
              clear hz
              go_wp2
              go_ret2
              obtain ⟨p', c', hv, hin⟩ := in64_of_owns HOW.out (valsTo_lim HO.out xs _) (by omega)
              cases hv
              rw [E1.out, E2.out]
              exact ⟨_, _, _, rfl, hin, hbel, owns_newR HOW.out⟩
    · have hb1 : ((m : Int) != (bytesW ws : Int)) = true := by rw [bne_iff_ne]; omega
      have e1 : unpackE ws xs = 3 := by unfold unpackE; rw [if_neg hnf, if_pos (by rw [HY.out]; exact hm)]
      have e2 : unpackL ws xs = [] := by unfold unpackL; rw [e1]; rfl
      rw [e1, e2]
      have HO : Hid (widthOk ws = true) := hok
      clear e1 e2 hok hm
      go_enter Try.func35, Try.ntmps35
      go_wp2_with (go_at_call 50; refine (refWidth_ok p n c ws w hx HO.out).mono ?_; rintro e w' ⟨rfl, hw'⟩; have hw2 := hw'.symm; subst hw2; clear hw')
      go_ret2
      exact ⟨_, _, _, rfl, In64.empty _, Below.refl _ _, fun a h => by cases h⟩
end Go.Proofs.Ytgeomfgfeemciaa
