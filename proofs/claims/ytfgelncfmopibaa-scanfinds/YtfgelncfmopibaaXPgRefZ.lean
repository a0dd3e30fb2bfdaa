/-
  Joined: RefMaskP, RefWidth, RefPack, RefUnpack, RefZeros, OpenD, RefStateP, RefOpen, PgRefP, PgRefHead, PgRefDecP, PgRefDec.
-/
import Derived.Test.YtfgelncfmopibaaXOwn
import Derived.Test.YtfgelncfmopibaaXPack
import Derived.Deep.RegionHeld3
import Derived.Test.YtfgelncfmopibaaXFields
import Derived.Test.YtfgelncfmopibaaXBits
import Derived.Test.YtfgelncfmopibaaXFit
import Derived.Test.YtfgelncfmopibaaXState
import Derived.Test.YtfgelncfmopibaaXSided
import Derived.Test.YtfgelncfmopibaaXPgDec
namespace Go.Proofs.Ytfgelncfmopibaa.Pg
open Go.RowKit
theorem vals_snoc (L : List Nat) (k : Nat) (h : k < L.length) : vals (L.take k) ++ [.int .u8 (el L k)] = vals (L.take (k + 1)) := by
  rw [take_succ_getD L k h, vals_append]; rfl
theorem one_cell_at (w : World) (X : Value) : ∀ j u, [X][j]? = some u → (w.alloc (.cells #[X] 5)).cell? ((⟨w.heap.size, 0, none⟩ : Addr).add j) = some u := by
  intro j u hj
  match j, hj with
  | 0, hj => simp at hj; subst hj; simp [Addr.add]
theorem below_app {B : Nat} {w0 wr w1 : World} {o : Obj} {v : Value} {n : Nat} {e : TypeId} {xs : List Value} (hbel : Below B w0 wr) (hB : B ≤ w0.heap.size) (hown : wr.ownsRow B e 1 v n xs) (hg : (wr.alloc o).grownBy w1 v.ownBlock) : Below B w0 w1 := by
  have hs := hbel.size
  refine (hbel.alloc (by omega) o).grown hg (by simp; omega) fun k hk => ?_
  rcases hown.2 with ⟨rfl, _⟩ | ⟨g, cap, cur, rfl, hg, _⟩
  · simp [Value.ownBlock] at hk
  · simp only [Value.ownBlock, Option.some.injEq] at hk
    omega
end Go.Proofs.Ytfgelncfmopibaa.Pg

namespace Go.Proofs.Ytfgelncfmopibaa.Pg
open Go.RowKit
theorem refWidth_any (p : Option Addr) (n c : Nat) (ws : List Int) (w : World) (hx : InI w p n c ws) :
    Calls Try.prog 93 #[.slice p n c] w fun e w' => e = .returned (.tuple #[.int .i64 (widthN ws), .int .i64 (widthE ws)]) ∧ w' = w := by
  have hroom := hx.room
  have HX : Hid (ws.length = n) := hx.len
  by_cases hl : 64 < n
  · have h1 : (64 : Int) < (n : Int) := by omega
    have e0 : widthOk ws = false := by simp only [widthOk, Bool.and_eq_false_iff, decide_eq_false_iff_not]; left; rw [HX.out]; omega
    have e1 : widthE ws = 1 := by unfold widthE; rw [e0]; rfl
    have e2 : widthN ws = 0 := by unfold widthN; rw [e0]; rfl
    rw [e1, e2]
    clear e0 e1 e2
    go_enter Try.func93, Try.ntmps93
    go_wp2
    go_ret2
    exact ⟨rfl, rfl⟩
  · have h1 : ¬ (64 : Int) < (n : Int) := by omega
    go_enter Try.func93, Try.ntmps93
    go_wp2
    go_loop [4, 5] (fun a i => ∃ k : Nat, k ≤ n ∧ i = .int .i64 k ∧ a = .int .i64 (sumW (ws.take k)) ∧ ∀ j, j < k → okW (eI ws j) = true) (fun _ i => n - (intOf i).toNat)
    case atStart => exact ⟨0, Nat.zero_le _, rfl, rfl, fun j h => by omega⟩
    case round =>
      obtain ⟨k, hk, rfl, rfl, hall⟩ := hrel
      have hb := sumW_bound ws k (by rw [HX.out]; exact hk) hall
      have HA : Hid (∀ j, j < k → okW (eI ws j) = true) := hall
      clear hall
      by_cases hlt : k < n
      · obtain ⟨b, o, rfl, hb', hc⟩ := hx.at' (by omega)
        have hck := hc k hlt
        clear hc
        by_cases hok : okW (eI ws k) = true
        · have ho := (okW_iff _).1 hok
          have HO : Hid (okW (eI ws k) = true) := hok
          have HS : Hid (sumW (ws.take (k + 1)) = sumW (ws.take k) + eI ws k) := sumW_take_succ ws k (by rw [HX.out]; exact hlt)
          clear hok
          have hd1 : ¬ eI ws k < 1 := by omega
          have hd2 : ¬ 64 < eI ws k := by omega
          go_wp2
          go_round
          case rel =>
            refine ⟨k + 1, by omega, by go_num, val_int HS.out.symm, fun j hj => ?_⟩
            rcases Nat.lt_succ_iff_lt_or_eq.1 hj with h | h
            · exact HA.out j h
            · rw [h]; exact HO.out
          case measure => simp [intOf]; omega
        · have e0 : widthOk ws = false := by
            cases hq : widthOk ws with
            | false => rfl
            | true =>
              unfold widthOk at hq
              simp only [Bool.and_eq_true] at hq
              exact absurd ((allW_iff ws).1 hq.2 k (by rw [HX.out]; exact hlt)) hok
          have E1 : Hid (widthE ws = 1) := by show _ = _; unfold widthE; rw [e0]; rfl
          have E2 : Hid (widthN ws = 0) := by show _ = _; unfold widthN; rw [e0]; rfl
          have hn : eI ws k < 1 ∨ 64 < eI ws k := by
            rcases Int.lt_or_le (eI ws k) 1 with h | h
            · exact .inl h
            · rcases Int.lt_or_le 64 (eI ws k) with h' | h'
              · exact .inr h'
              · exact absurd ((okW_iff _).2 ⟨h, h'⟩) hok
          clear hok e0
          rcases hn with hn | hn
          · go_wp2
            go_ret2
            rw [E1.out, E2.out]
            exact ⟨rfl, rfl⟩
          · have hn1 : ¬ eI ws k < 1 := by omega
            go_wp2
            go_ret2
            rw [E1.out, E2.out]
            exact ⟨rfl, rfl⟩
      · have hkn : k = n := by omega
        subst hkn
        have e0 : widthOk ws = true := by
          unfold widthOk
          rw [Bool.and_eq_true]
          exact ⟨by rw [HX.out]; simp; omega, (allW_iff ws).2 fun j hj => HA.out j (by have := HX.out; omega)⟩
        have et : ws.take k = ws := List.take_of_length_le (by rw [HX.out]; exact Nat.le_refl _)
        rw [et] at hb ⊢
        have E1 : Hid (widthE ws = 0) := by show _ = _; unfold widthE; rw [e0]; rfl
        have E2 : Hid (widthN ws = (sumW ws + 7) / 8) := by show _ = _; unfold widthN; rw [e0]; rfl
        clear e0 et
        go_wp2
        go_ret2
        rw [E1.out, E2.out]
        exact ⟨rfl, rfl⟩
theorem refWidth_ok (p : Option Addr) (n c : Nat) (ws : List Int) (w : World) (hx : InI w p n c ws) (h : widthOk ws = true) :
    Calls Try.prog 93 #[.slice p n c] w fun e w' => e = .returned (.tuple #[.int .i64 (bytesW ws), .int .i64 0]) ∧ w' = w := by
  have := refWidth_any p n c ws w hx
  rw [(widthN_ok h).1, show widthE ws = 0 from by unfold widthE; rw [if_pos h]] at this
  exact this
theorem refWidth_no (p : Option Addr) (n c : Nat) (ws : List Int) (w : World) (hx : InI w p n c ws) (h : widthOk ws = false) :
    Calls Try.prog 93 #[.slice p n c] w fun e w' => e = .returned (.tuple #[.int .i64 0, .int .i64 1]) ∧ w' = w := by
  have := refWidth_any p n c ws w hx
  rw [show widthN ws = 0 from by unfold widthN; rw [h]; rfl, show widthE ws = 1 from by unfold widthE; rw [h]; rfl] at this
  exact this
end Go.Proofs.Ytfgelncfmopibaa.Pg

namespace Go.Proofs.Ytfgelncfmopibaa.Pg
open Go.RowKit
theorem put_val64 {ys : List Nat} (hy : ∀ x ∈ ys, x < 256) (j v s t : Nat) (hv : v < 18446744073709551616) (ht : t ≤ 7) :
    bits .or .u8 (el ys j) (bits .and .u64 ((v : Int) / 2 ^ s) 1 % 256 * 2 ^ t % 256) = ((ys.getD j 0 ||| (if v.testBit s then 2 ^ t else 0) : Nat) : Int) := by
  have hp := pow7 t ht
  have hr := el_range hy j
  have hd : v / 2 ^ s < 18446744073709551616 := Nat.lt_of_le_of_lt (Nat.div_le_self _ _) hv
  have e0 : bits .and .u64 ((v : Int) / 2 ^ s) 1 = ((if v.testBit s then 1 else 0 : Nat) : Int) := by
    rw [shr_nat, show (1 : Int) = ((1 : Nat) : Int) from rfl, bits_and_u64_nat _ _ hd (by decide), Nat.and_one_is_mod, Nat.testBit_eq_decide_div_mod_eq]
    by_cases h : v / 2 ^ s % 2 = 1
    · rw [if_pos (by simpa using h)]; omega
    · rw [if_neg (by simpa using h)]; omega
  have e : (bits .and .u64 ((v : Int) / 2 ^ s) 1 % 256 * 2 ^ t % 256) = (((if v.testBit s then 2 ^ t else 0 : Nat)) : Int) := by
    rw [e0]
    have e2 : ((2 : Int) ^ t) = ((2 ^ t : Nat) : Int) := by simp
    cases v.testBit s with
    | true =>
      rw [e2]
      generalize 2 ^ t = T at hp ⊢
      simp only [if_true]
      rw [show ((1 : Nat) : Int) % 256 * (T : Int) = (T : Int) from by simp]
      omega
    | false => simp
  rw [e]
  have hl : (if v.testBit s then 2 ^ t else 0) < 256 := by split <;> omega
  have h2 : ys.getD j 0 < 256 := by unfold el at hr; omega
  exact u8_or_nat _ _ h2 hl
set_option maxHeartbeats 1000000 in
set_option maxRecDepth 100000 in
theorem refPack_owns (p q : Option Addr) (n c m d : Nat) (ws : List Int) (vs : List Nat) (w : World) (hx : InI w p n c ws) (hy : In64 w q m d vs) :
    Calls Try.prog 94 #[.slice p n c, .slice q m d] w fun e w' => ∃ v n', e = .returned (.tuple #[v, .int .i64 (packE ws vs)]) ∧ w'.ownsRow w.heap.size 5 1 v n' (vals (packL ws vs)) ∧ (∀ x ∈ packL ws vs, x < 256) ∧ n' ≤ 512 ∧ Below w.heap.size w w' := by
  have hroom := hx.room
  have HX : Hid (ws.length = n) := hx.len
  have HY : Hid (vs.length = m) := hy.len
  obtain ⟨i0, hi, hz0, hz1, hz2⟩ := info_parts info5
  cases hok : widthOk ws with
  | false =>
    have e1 : packE ws vs = 1 := by unfold packE packOk; rw [hok]; rfl
    have e2 : packL ws vs = [] := by unfold packL packOk; rw [hok]; rfl
    rw [e1, e2]
    have HO : Hid (widthOk ws = false) := hok
    clear e1 e2 hok
    go_enter Try.func94, Try.ntmps94
    go_wp2_with (go_at_call 93; refine (refWidth_no p n c ws w hx HO.out).mono ?_; rintro e w' ⟨rfl, hw'⟩; have hw2 := hw'.symm; subst hw2; clear hw')
    go_ret2
    exact ⟨_, 0, rfl, World.ownsRow_nil _ _ _ _, fun x h => by simp at h, by omega, Below.refl _ _⟩
  | true =>
    have hN := (widthN_ok hok).2
    by_cases hnm : m = n
    · subst hnm
      have HO : Hid (widthOk ws = true) := hok
      clear hok
      go_enter Try.func94, Try.ntmps94
      go_wp2_with (first
        | (go_at_call 93; refine (refWidth_ok p _ c ws w hx HO.out).mono ?_; rintro e w' ⟨rfl, hw'⟩; have hw2 := hw'.symm; subst hw2; clear hw')
        | (at_make; refine wpList_make_full _ rfl _ _ 75 rfl w.heap.size 5 i0 (.int .u8 0) 1 Try.underlying75 hi hz0 hz1 .i64 .i64 _ _ (bytesW ws) rfl rfl rfl rfl (by rw [hz2]; omega) (by unfold maxLen; omega) (Nat.le_refl _) ?_; intro w1 hown1 hgrow1))
      have hown2 := made_owns hown1
      have hbel2 := below_grown0 hgrow1
      clear hown1 hgrow1
      go_loopw [9, 10] (fun a i wr => ∃ k : Nat, k ≤ m ∧ i = .int .i64 k ∧ a = .int .i64 (atW ws k) ∧ wr.ownsRow w.heap.size 5 1 (.slice (some ⟨w.heap.size, 0, none⟩) (bytesW ws) (bytesW ws)) (bytesW ws) (vals (packTo ws vs (List.replicate (bytesW ws) 0) k)) ∧ Below w.heap.size w wr ∧ ∀ j, j < k → vs.getD j 0 < 2 ^ (eI ws j).toNat) (fun _ i _ => m - (intOf i).toNat)
      case atStart => exact ⟨0, Nat.zero_le _, rfl, val_int (by rw [atW_zero]; rfl), hown2, hbel2, fun j h => by omega⟩
      case round =>
        obtain ⟨k, hk, rfl, rfl, hown, hbel, hall⟩ := hrel
        have HA : Hid (∀ j, j < k → vs.getD j 0 < 2 ^ (eI ws j).toNat) := hall
        clear hown2 hbel2 hall
        have hat := (atW_cast HO.out k (by rw [HX.out]; exact hk)).2
        by_cases hlt : k < m
        · obtain ⟨b, o, rfl, hb', hc⟩ := hx.at' (by omega)
          obtain ⟨b', o', rfl, hb'', hc'⟩ := hy.at' (by omega)
          obtain ⟨hs, hw1, hw2, he⟩ := atW_succ HO.out k (by rw [HX.out]; exact hlt)
          have HS : Hid (atW ws (k + 1) = atW ws k + (eI ws k).toNat) := hs
          have hck : wr.cell? ⟨b, o + k, none⟩ = some (.int .i64 ((eI ws k).toNat : Int)) := by rw [← he]; exact (hbel.cell (p := ⟨b, o + k, none⟩) hb').trans (hc k hlt)
          have hck' : wr.cell? ⟨b', o' + k, none⟩ = some (.int .u64 ((vs.getD k 0 : Nat) : Int)) := (hbel.cell (p := ⟨b', o' + k, none⟩) hb'').trans (hc' k (by omega))
          have HCW : Hid (w.cell? ⟨b', o' + k, none⟩ = some (.int .u64 ((vs.getD k 0 : Nat) : Int))) := hc' k (by omega)
          have hv : vs.getD k 0 < 18446744073709551616 := by have := el_range64 hy.lim k; unfold el at this; omega
          have hmono := atW_mono HO.out (ws.length - (k + 1)) (k + 1) (by rw [HX.out]; omega)
          rw [show k + 1 + (ws.length - (k + 1)) = ws.length from by rw [HX.out]; omega, hs] at hmono
          have hfit : atW ws k + (eI ws k).toNat ≤ 8 * bytesW ws := by unfold bytesW; omega
          have HP : Hid (packTo ws vs (List.replicate (bytesW ws) 0) (k + 1) = setTo (packTo ws vs (List.replicate (bytesW ws) 0) k) (atW ws k) (eI ws k).toNat (vs.getD k 0) (eI ws k).toNat) := rfl
          by_cases hf : vs.getD k 0 < 2 ^ (eI ws k).toNat
          · have HF : Hid (∀ j, j < k + 1 → vs.getD j 0 < 2 ^ (eI ws j).toNat) := by
              intro j hj
              rcases Nat.lt_succ_iff_lt_or_eq.1 hj with h | h
              · exact HA.out j h
              · rw [h]; exact hf
            clear hs he hc hc' hmono
            generalize (eI ws k).toNat = W at *
            generalize vs.getD k 0 = V at *
            by_cases hW : W < 64
            · have hd : decide ((W : Int) < 64) = true := by simp; omega
              have hz : ((V : Int) / 2 ^ W != 0) = false := by rw [shr_fit]; simpa using hf
              clear hf
              go_wp2
              go_quiet (fail)
              go_wp2
              go_loopw [9, 11] (fun a i wr' => ∃ t : Nat, t ≤ W ∧ i = .int .i64 ((W : Int) - 1 - t) ∧ a = .int .i64 ((atW ws k + t : Nat) : Int) ∧ wr'.ownsRow w.heap.size 5 1 (.slice (some ⟨w.heap.size, 0, none⟩) (bytesW ws) (bytesW ws)) (bytesW ws) (vals (setTo (packTo ws vs (List.replicate (bytesW ws) 0) k) (atW ws k) W V t)) ∧ Below w.heap.size w wr') (fun _ i _ => (intOf i + 1).toNat)
              case atStart => exact ⟨0, Nat.zero_le _, by go_num, rfl, by exact hown, below_drewN hbel _⟩
              case round =>
                obtain ⟨t, ht, rfl, rfl, hown', hbel'⟩ := hrel
                clear hck hck' hz
                by_cases htl : t < W
                · have hq : (atW ws k + t) / 8 < bytesW ws := by omega
                  have hlen : (setTo (packTo ws vs (List.replicate (bytesW ws) 0) k) (atW ws k) W V t).length = bytesW ws := by rw [setTo_length, packTo_length, List.length_replicate]
                  have hc1 : wr.cell? ⟨w.heap.size, (atW ws k + t) / 8, none⟩ = some (.int .u8 (el (setTo (packTo ws vs (List.replicate (bytesW ws) 0) k) (atW ws k) W V t) ((atW ws k + t) / 8))) := by
                    rw [hown'.cellAt _ (by omega), vals_get _ _ (by rw [hlen]; exact hq)]
                  have hf1 : wr.frozen? ⟨w.heap.size, (atW ws k + t) / 8, none⟩ = false := hown'.frozenAt _
                  have hc2 : wr.cell? ⟨b', o' + k, none⟩ = some (.int .u64 (V : Int)) := (hbel'.cell (p := ⟨b', o' + k, none⟩) hb'').trans HCW.out
                  clear hlen
                  go_wp2
                  go_region
                  all_goals (try go_wp2)
                  all_goals
                    go_roundw
                    case rel =>
                      have hby : ∀ x ∈ setTo (packTo ws vs (List.replicate (bytesW ws) 0) k) (atW ws k) W V t, x < 256 := setTo_byte (packTo_byte (fun x hx => by rw [List.eq_of_mem_replicate hx]; decide) k) _ _ _ _
                      have hpv := put_val64 hby ((atW ws k + t) / 8) V (W - 1 - t) (7 - (atW ws k + t) % 8) hv (by omega)
                      have hst := hown'.stored ((atW ws k + t) / 8) (.int .u8 (bits .or .u8 (el (setTo (packTo ws vs (List.replicate (bytesW ws) 0) k) (atW ws k) W V t) ((atW ws k + t) / 8)) (bits .and .u64 ((V : Int) / 2 ^ (W - 1 - t)) 1 % 256 * 2 ^ (7 - (atW ws k + t) % 8) % 256)))
                      refine ⟨t + 1, by omega, val_int (by omega), val_int (by omega), ?_, (hbel'.setCell (p := ⟨w.heap.size, (atW ws k + t) / 8, none⟩) (Nat.le_refl _) _).drew⟩
                      have hs := hst.1.drew
                      rw [setTo, orAt, vals_set, ← hpv]
                      exact hs
                    case measure => simp [intOf]; omega
                · have htW : t = W := by omega
                  subst htW
                  go_wp2
                  go_roundw
                  case rel => exact ⟨k + 1, by omega, by go_num, val_int (by rw [HS.out]), by rw [HP.out]; exact hown', hbel', HF.out⟩
                  case measure => simp [intOf]; omega
            · have hd : decide ((W : Int) < 64) = false := by simp; omega
              have hz : True := trivial
              clear hf
              go_wp2
              go_quiet (fail)
              go_wp2
              go_loopw [9, 11] (fun a i wr' => ∃ t : Nat, t ≤ W ∧ i = .int .i64 ((W : Int) - 1 - t) ∧ a = .int .i64 ((atW ws k + t : Nat) : Int) ∧ wr'.ownsRow w.heap.size 5 1 (.slice (some ⟨w.heap.size, 0, none⟩) (bytesW ws) (bytesW ws)) (bytesW ws) (vals (setTo (packTo ws vs (List.replicate (bytesW ws) 0) k) (atW ws k) W V t)) ∧ Below w.heap.size w wr') (fun _ i _ => (intOf i + 1).toNat)
              case atStart => exact ⟨0, Nat.zero_le _, by go_num, rfl, by exact hown, below_drewN hbel _⟩
              case round =>
                obtain ⟨t, ht, rfl, rfl, hown', hbel'⟩ := hrel
                clear hck hck' hz
                by_cases htl : t < W
                · have hq : (atW ws k + t) / 8 < bytesW ws := by omega
                  have hlen : (setTo (packTo ws vs (List.replicate (bytesW ws) 0) k) (atW ws k) W V t).length = bytesW ws := by rw [setTo_length, packTo_length, List.length_replicate]
                  have hc1 : wr.cell? ⟨w.heap.size, (atW ws k + t) / 8, none⟩ = some (.int .u8 (el (setTo (packTo ws vs (List.replicate (bytesW ws) 0) k) (atW ws k) W V t) ((atW ws k + t) / 8))) := by
                    rw [hown'.cellAt _ (by omega), vals_get _ _ (by rw [hlen]; exact hq)]
                  have hf1 : wr.frozen? ⟨w.heap.size, (atW ws k + t) / 8, none⟩ = false := hown'.frozenAt _
                  have hc2 : wr.cell? ⟨b', o' + k, none⟩ = some (.int .u64 (V : Int)) := (hbel'.cell (p := ⟨b', o' + k, none⟩) hb'').trans HCW.out
                  clear hlen
                  go_wp2
                  go_region
                  all_goals (try go_wp2)
                  all_goals
                    go_roundw
                    case rel =>
                      have hby : ∀ x ∈ setTo (packTo ws vs (List.replicate (bytesW ws) 0) k) (atW ws k) W V t, x < 256 := setTo_byte (packTo_byte (fun x hx => by rw [List.eq_of_mem_replicate hx]; decide) k) _ _ _ _
                      have hpv := put_val64 hby ((atW ws k + t) / 8) V (W - 1 - t) (7 - (atW ws k + t) % 8) hv (by omega)
                      have hst := hown'.stored ((atW ws k + t) / 8) (.int .u8 (bits .or .u8 (el (setTo (packTo ws vs (List.replicate (bytesW ws) 0) k) (atW ws k) W V t) ((atW ws k + t) / 8)) (bits .and .u64 ((V : Int) / 2 ^ (W - 1 - t)) 1 % 256 * 2 ^ (7 - (atW ws k + t) % 8) % 256)))
                      refine ⟨t + 1, by omega, val_int (by omega), val_int (by omega), ?_, (hbel'.setCell (p := ⟨w.heap.size, (atW ws k + t) / 8, none⟩) (Nat.le_refl _) _).drew⟩
                      have hs := hst.1.drew
                      rw [setTo, orAt, vals_set, ← hpv]
                      exact hs
                    case measure => simp [intOf]; omega
                · have htW : t = W := by omega
                  subst htW
                  go_wp2
                  go_roundw
                  case rel => exact ⟨k + 1, by omega, by go_num, val_int (by rw [HS.out]), by rw [HP.out]; exact hown', hbel', HF.out⟩
                  case measure => simp [intOf]; omega
          · have hW : (eI ws k).toNat < 64 := by
              rcases Nat.lt_or_ge (eI ws k).toNat 64 with h | h
              · exact h
              · have e64 : (eI ws k).toNat = 64 := by omega
                rw [e64] at hf
                exact absurd (by omega) hf
            have hfb : fitB ws vs = false := by
              cases hq : fitB ws vs with
              | false => rfl
              | true => exact absurd (((fitB_iff ws vs).1 hq).2 k (by rw [HX.out]; exact hlt)) hf
            have E1 : Hid (packE ws vs = 1) := by show _ = _; unfold packE packOk; rw [HO.out, hfb]; rfl
            have E2 : Hid (packL ws vs = []) := by show _ = _; unfold packL packOk; rw [HO.out, hfb]; rfl
            clear hs he hc hc' hmono HP hfb HCW HS
            generalize (eI ws k).toNat = W at *
            generalize vs.getD k 0 = V at *
            have hd : decide ((W : Int) < 64) = true := by simp; omega
            have hz : ((V : Int) / 2 ^ W != 0) = true := by rw [shr_fit]; simpa using hf
            clear hf
            go_wp2
            go_quiet (fail)
            go_wp2
            go_ret2
            rw [E1.out, E2.out]
            exact ⟨_, 0, rfl, World.ownsRow_nil _ _ _ _, fun x h => by simp at h, by omega, below_drewN hbel _⟩
        · have hkm : k = ws.length := by have := HX.out; omega
          have hfb : fitB ws vs = true := (fitB_iff ws vs).2 ⟨by rw [HX.out, HY.out], fun i hi => HA.out i (by omega)⟩
          have E1 : Hid (packE ws vs = 0) := by show _ = _; unfold packE packOk; rw [HO.out, hfb]; rfl
          have E2 : Hid (packL ws vs = packTo ws vs (List.replicate (bytesW ws) 0) ws.length) := by show _ = _; unfold packL packOk; rw [HO.out, hfb]; rfl
          rw [hkm] at hown
          clear hkm hfb
          go_wp2
          go_ret2
          rw [E1.out, E2.out]
          exact ⟨_, _, rfl, hown, packTo_byte (fun x hx => by rw [List.eq_of_mem_replicate hx]; decide) _, hN, hbel⟩
    · have hne : ((m : Int) != (n : Int)) = true := by rw [bne_iff_ne]; omega
      have hfb : fitB ws vs = false := by
        cases hq : fitB ws vs with
        | false => rfl
        | true => have := ((fitB_iff ws vs).1 hq).1; rw [HX.out, HY.out] at this; exact absurd this.symm hnm
      have e1 : packE ws vs = 1 := by unfold packE packOk; rw [hfb, Bool.and_false]; rfl
      have e2 : packL ws vs = [] := by unfold packL packOk; rw [hfb, Bool.and_false]; rfl
      rw [e1, e2]
      have HO : Hid (widthOk ws = true) := hok
      clear e1 e2 hok hfb hnm
      go_enter Try.func94, Try.ntmps94
      go_wp2_with (go_at_call 93; refine (refWidth_ok p n c ws w hx HO.out).mono ?_; rintro e w' ⟨rfl, hw'⟩; have hw2 := hw'.symm; subst hw2; clear hw')
      go_ret2
      exact ⟨_, 0, rfl, World.ownsRow_nil _ _ _ _, fun x h => by simp at h, by omega, Below.refl _ _⟩
theorem refPack_any (p q : Option Addr) (n c m d : Nat) (ws : List Int) (vs : List Nat) (w : World) (hx : InI w p n c ws) (hy : In64 w q m d vs) :
    Calls Try.prog 94 #[.slice p n c, .slice q m d] w fun e w' => ∃ p' n' c', e = .returned (.tuple #[.slice p' n' c', .int .i64 (packE ws vs)]) ∧ In w' p' n' c' (packL ws vs) ∧ Below w.heap.size w w' := by
  refine (refPack_owns p q n c m d ws vs w hx hy).mono ?_
  rintro e w' ⟨v, n', rfl, hown, hb, hn, hbel⟩
  obtain ⟨p', c', rfl, hin⟩ := in_of_owns hown hb (by omega)
  exact ⟨p', n', c', rfl, hin, hbel⟩
end Go.Proofs.Ytfgelncfmopibaa.Pg

namespace Go.Proofs.Ytfgelncfmopibaa.Pg
open Go.RowKit
theorem tail_iff (ws : List Int) (xs : List Nat) : tailN ws xs = 0 ↔ ∀ t, t < 8 * bytesW ws - atW ws ws.length → bitAt xs (atW ws ws.length + t) = false := by
  constructor
  · intro h t ht
    have := getN_bit xs (atW ws ws.length) (8 * bytesW ws - atW ws ws.length) t ht
    unfold tailN at h
    rw [h, Nat.zero_testBit] at this
    exact this.symm
  · intro h
    unfold tailN
    exact getN_of_bits xs _ _ 0 (Nat.two_pow_pos _) fun t ht => by rw [h t ht, Nat.zero_testBit]
theorem vals64_snoc (L : List Nat) (k : Nat) (h : k < L.length) : vals64 (L.take k) ++ [.int .u64 (el L k)] = vals64 (L.take (k + 1)) := by
  rw [take_succ_getD L k h, vals64_append]; rfl
theorem one_cell_at64 (w : World) (X : Value) : ∀ j u, [X][j]? = some u → (w.alloc (.cells #[X] 114)).cell? ((⟨w.heap.size, 0, none⟩ : Addr).add j) = some u := by
  intro j u hj
  match j, hj with
  | 0, hj => simp at hj; subst hj; simp [Addr.add]
set_option maxHeartbeats 1000000 in
set_option maxRecDepth 100000 in
theorem refUnpack_any (p q : Option Addr) (n c m d : Nat) (ws : List Int) (xs : List Nat) (w : World) (hx : InI w p n c ws) (hy : In w q m d xs) :
    Calls Try.prog 64 #[.slice p n c, .slice q m d] w fun e w' => ∃ p' n' c', e = .returned (.tuple #[.slice p' n' c', .int .i64 (unpackE ws xs)]) ∧ In64 w' p' n' c' (unpackL ws xs) ∧ Below w.heap.size w w' := by
  have hroom := hx.room
  have hroomm := hy.room
  have HX : Hid (ws.length = n) := hx.len
  have HY : Hid (xs.length = m) := hy.len
  obtain ⟨i0, hi, hz0, hz1, hz2⟩ := info_parts info64
  cases hok : widthOk ws with
  | false =>
    have e1 : unpackE ws xs = 1 := by unfold unpackE; rw [if_pos hok]
    have e2 : unpackL ws xs = [] := by unfold unpackL; rw [e1]; rfl
    rw [e1, e2]
    have HO : Hid (widthOk ws = false) := hok
    clear e1 e2 hok
    go_enter Try.func64, Try.ntmps64
    go_wp2_with (go_at_call 93; refine (refWidth_no p n c ws w hx HO.out).mono ?_; rintro e w' ⟨rfl, hw'⟩; have hw2 := hw'.symm; subst hw2; clear hw')
    go_ret2
    exact ⟨_, _, _, rfl, In64.empty _, Below.refl _ _⟩
  | true =>
    have hN := (widthN_ok hok).2
    have hl64 := widthOk_len hok
    rw [HX.out] at hl64
    have hnf : ¬ widthOk ws = false := by rw [hok]; simp
    by_cases hm : m = bytesW ws
    · have hb1 : ((m : Int) != (bytesW ws : Int)) = false := by rw [hm]; simp
      have hat := (atW_cast hok ws.length (Nat.le_refl _)).2
      rw [HX.out] at hat
      have htl : 8 * bytesW ws - atW ws n ≤ 64 ∧ atW ws n ≤ 8 * bytesW ws := by
        unfold bytesW; rw [HX.out]; omega
      have HO : Hid (widthOk ws = true) := hok
      have HM : Hid (m = bytesW ws) := hm
      have hmb : 8 * bytesW ws ≤ 8 * m := by omega
      have HLn : Hid ((valsTo ws xs ws.length).length = n) := by show _ = _; rw [valsTo_length]; exact hx.len
      clear hok hm
      go_enter Try.func64, Try.ntmps64
      go_wp2_with (go_at_call 93; refine (refWidth_ok p n c ws w hx HO.out).mono ?_; rintro e w' ⟨rfl, hw'⟩; have hw2 := hw'.symm; subst hw2; clear hw')
      go_loopw [8, 9, 10] (fun v a i wr => ∃ k : Nat, k ≤ n ∧ i = .int .i64 k ∧ a = .int .i64 (atW ws k) ∧ wr.ownsRow w.heap.size 114 1 v k (vals64 ((valsTo ws xs ws.length).take k)) ∧ Below w.heap.size w wr) (fun _ _ i _ => n - (intOf i).toNat)
      case atStart => exact ⟨0, Nat.zero_le _, rfl, val_int (by rw [atW_zero]; rfl), World.ownsRow_nil _ _ _ _, Below.refl _ _⟩
      case round =>
        obtain ⟨k, hk, rfl, rfl, hown, hbel⟩ := hrel
        have hatk := (atW_cast HO.out k (by rw [HX.out]; exact hk)).2
        by_cases hlt : k < n
        · obtain ⟨b, o, rfl, hb', hc⟩ := hx.at' (by omega)
          obtain ⟨hs, hw1, hw2, he⟩ := atW_succ HO.out k (by rw [HX.out]; exact hlt)
          have HS : Hid (atW ws (k + 1) = atW ws k + (eI ws k).toNat) := hs
          have hck : wr.cell? ⟨b, o + k, none⟩ = some (.int .i64 ((eI ws k).toNat : Int)) := by rw [← he]; exact (hbel.cell (p := ⟨b, o + k, none⟩) hb').trans (hc k hlt)
          have hmono := atW_mono HO.out (ws.length - (k + 1)) (k + 1) (by rw [HX.out]; omega)
          rw [show k + 1 + (ws.length - (k + 1)) = ws.length from by rw [HX.out]; omega, hs, HX.out] at hmono
          have hfit : atW ws k + (eI ws k).toNat ≤ 8 * m := by omega
          have HV : Hid (el (valsTo ws xs ws.length) k = ((getN xs (atW ws k) (eI ws k).toNat : Nat) : Int)) := by
            show _ = _
            unfold el; rw [valsTo_getD ws xs k (by rw [HX.out]; exact hlt)]
          clear hs he hc hmono
          generalize (eI ws k).toNat = W at *
          go_wp2
          go_loop [9, 11, 12] (fun a v i => ∃ t : Nat, t ≤ W ∧ i = .int .i64 t ∧ a = .int .i64 ((atW ws k + t : Nat) : Int) ∧ v = .int .u64 (getN xs (atW ws k) t)) (fun _ _ i => W - (intOf i).toNat)
          case atStart => exact ⟨0, Nat.zero_le _, rfl, rfl, rfl⟩
          case round =>
            obtain ⟨t, ht, rfl, rfl, rfl⟩ := hrel
            by_cases htl : t < W
            · have hq8 : (atW ws k + t) / 8 < m := by omega
              obtain ⟨b2, o2, rfl, hb2, hc2⟩ := hy.at' (by omega)
              have hcc : wr.cell? ⟨b2, o2 + (atW ws k + t) / 8, none⟩ = some (.int .u8 (el xs ((atW ws k + t) / 8))) := (hbel.cell (p := ⟨b2, o2 + (atW ws k + t) / 8, none⟩) hb2).trans (hc2 _ hq8)
              have hg := getN_63 xs (atW ws k) t (by omega)
              have HG : Hid (bits .or .u64 ((getN xs (atW ws k) t : Int) * 2) (IntKind.u64.wrap (bits .and .u8 (el xs ((atW ws k + t) / 8) / 2 ^ (7 - (atW ws k + t) % 8)) 1)) = ((getN xs (atW ws k) (t + 1) : Nat) : Int)) := get_step xs hy.byte (atW ws k) t (by omega)
              clear hc2
              go_wp2
              go_round
              case rel => exact ⟨t + 1, by omega, by go_num, val_int (by omega), val_int HG.out⟩
              case measure => simp [intOf]; omega
            · have htW : t = W := by omega
              subst htW
              go_wp2_with (at_builtin; refine wpList_append_own _ rfl (.tmp 56) (.tmp 58) 111 rfl w.heap.size 114 i0 (.int .u64 0) 1 8 Try.underlying111 hi hz0 hz1 hz2 rfl (by decide) _ _ _ rfl (hown.alloc _) ⟨wr.heap.size, 0, none⟩ 1 1 [.int .u64 ((getN xs (atW ws k) t : Nat) : Int)] rfl rfl (one_cell_at64 _ _) (by intro u hu; simp at hu; subst hu; rfl) (by unfold maxLen; omega) (by omega) (by have := hbel.size; simp; omega) ?_; intro v1 w1 hown1 hgrow1 _)
              have hb1' := below_app hbel (Nat.le_refl _) hown hgrow1
              rw [← HV.out, vals64_snoc _ _ (by rw [HLn.out]; exact hlt)] at hown1
              clear hgrow1 hown
              go_roundw
              case rel => exact ⟨k + 1, by omega, by go_num, val_int (by rw [HS.out]; omega), hown1, hb1'⟩
              case measure => simp [intOf]; omega
        · have hkn : k = n := by omega
          subst hkn
          have HT := tail_iff ws xs
          have HTT : Hid (tailN ws xs = 0 ↔ ∀ t, t < 8 * bytesW ws - atW ws k → bitAt xs (atW ws k + t) = false) := by show _ ↔ _; rw [HX.out] at HT; exact HT
          have hown9 := hown
          rw [List.take_of_length_le (by rw [HLn.out]; exact Nat.le_refl _)] at hown9
          have HOW : Hid (wr.ownsRow w.heap.size 114 1 u8 k (vals64 (valsTo ws xs ws.length))) := hown9
          clear HT hown hown9
          go_wp2
          go_loop [9] (fun a => ∃ t : Nat, t ≤ 8 * bytesW ws - atW ws k ∧ a = .int .i64 ((atW ws k + t : Nat) : Int) ∧ ∀ s, s < t → bitAt xs (atW ws k + s) = false) (fun a => (8 * (bytesW ws : Int) - intOf a).toNat)
          case atStart => exact ⟨0, Nat.zero_le _, rfl, fun s h => by omega⟩
          case round =>
            obtain ⟨t, ht, rfl, hall⟩ := hrel
            have HA : Hid (∀ s, s < t → bitAt xs (atW ws k + s) = false) := hall
            clear hall
            by_cases htl' : t < 8 * bytesW ws - atW ws k
            · have hq8 : (atW ws k + t) / 8 < m := by omega
              obtain ⟨b2, o2, rfl, hb2, hc2⟩ := hy.at' (by omega)
              have hcc : wr.cell? ⟨b2, o2 + (atW ws k + t) / 8, none⟩ = some (.int .u8 (el xs ((atW ws k + t) / 8))) := (hbel.cell (p := ⟨b2, o2 + (atW ws k + t) / 8, none⟩) hb2).trans (hc2 _ hq8)
              have HB : Hid (bits .and .u8 (el xs ((atW ws k + t) / 8) / 2 ^ (7 - (atW ws k + t) % 8)) 1 = ((bn (bitAt xs (atW ws k + t)) : Nat) : Int)) := by
                show _ = _
                have hr := el_range hy.byte ((atW ws k + t) / 8)
                unfold el at hr ⊢
                exact get_bit _ _ (by omega)
              clear hc2
              cases hq : bitAt xs (atW ws k + t) with
              | true =>
                have hbt : (bits .and .u8 (el xs ((atW ws k + t) / 8) / 2 ^ (7 - (atW ws k + t) % 8)) 1 != 0) = true := by rw [HB.out, hq]; rfl
                have hne : ¬ tailN ws xs = 0 := fun h => by have := HTT.out.1 h t htl'; rw [hq] at this; simp at this
                have E1 : Hid (unpackE ws xs = 1) := by show _ = _; unfold unpackE; rw [if_neg hnf, if_neg (by rw [HY.out, HM.out]; simp), if_pos hne]
                have E2 : Hid (unpackL ws xs = []) := by show _ = _; unfold unpackL; rw [E1.out]; rfl
                clear hne hq
                go_wp2
                go_ret2
                rw [E1.out, E2.out]
                exact ⟨_, _, _, rfl, In64.empty _, hbel⟩
              | false =>
                have hbt : (bits .and .u8 (el xs ((atW ws k + t) / 8) / 2 ^ (7 - (atW ws k + t) % 8)) 1 != 0) = false := by rw [HB.out, hq]; rfl
                have HQ : Hid (bitAt xs (atW ws k + t) = false) := hq
                clear hq
                go_wp2
                go_round
                case rel =>
                  refine ⟨t + 1, by omega, val_int (by omega), fun s hs => ?_⟩
                  rcases Nat.lt_succ_iff_lt_or_eq.1 hs with h | h
                  · exact HA.out s h
                  · rw [h]; exact HQ.out
                case measure => simp [intOf]; omega
            · have hz : tailN ws xs = 0 := HTT.out.2 fun s hs => HA.out s (by omega)
              have E1 : Hid (unpackE ws xs = 0) := by show _ = _; unfold unpackE; rw [if_neg hnf, if_neg (by rw [HY.out, HM.out]; simp), if_neg (by rw [hz]; simp)]
              have E2 : Hid (unpackL ws xs = valsTo ws xs ws.length) := by show _ = _; unfold unpackL; rw [if_pos E1.out]
              clear hz
              go_wp2
              go_ret2
              obtain ⟨p', c', hv, hin⟩ := in64_of_owns HOW.out (valsTo_lim HO.out xs _) (by omega)
              cases hv
              rw [E1.out, E2.out]
              exact ⟨_, _, _, rfl, hin, hbel⟩
    · have hb1 : ((m : Int) != (bytesW ws : Int)) = true := by rw [bne_iff_ne]; omega
      have e1 : unpackE ws xs = 3 := by unfold unpackE; rw [if_neg hnf, if_pos (by rw [HY.out]; exact hm)]
      have e2 : unpackL ws xs = [] := by unfold unpackL; rw [e1]; rfl
      rw [e1, e2]
      have HO : Hid (widthOk ws = true) := hok
      clear e1 e2 hok hm
      go_enter Try.func64, Try.ntmps64
      go_wp2_with (go_at_call 93; refine (refWidth_ok p n c ws w hx HO.out).mono ?_; rintro e w' ⟨rfl, hw'⟩; have hw2 := hw'.symm; subst hw2; clear hw')
      go_ret2
      exact ⟨_, _, _, rfl, In64.empty _, Below.refl _ _⟩
end Go.Proofs.Ytfgelncfmopibaa.Pg

namespace Go.Proofs.Ytfgelncfmopibaa.Pg
open Go.RowKit
/-- How many of the first t bits of x are 0. -/
def zpart (x : Nat) : Nat → Nat
  | 0 => 0
  | t + 1 => zpart x t + bz (x.testBit t)
theorem zpart_all (x : Nat) (h : x < 256) : zpart x 8 = zb x := by
  rw [zb_eq x h]; simp [zpart, zbits]
theorem bz_le1 (b : Bool) : bz b ≤ 1 := by cases b <;> simp [bz]
theorem zpart_le (x t : Nat) : zpart x t ≤ t := by
  induction t with
  | zero => simp [zpart]
  | succ t ih => have := bz_le1 (x.testBit t); simp only [zpart]; omega
theorem bit_test (x t : Nat) (hx : x < 256) : (bits .and .u8 ((x : Int) / 2 ^ t) 1 == 0) = !(x.testBit t) := by
  have hd : x / 2 ^ t < 256 := Nat.lt_of_le_of_lt (Nat.div_le_self _ _) hx
  rw [shr_nat, show (1 : Int) = ((1 : Nat) : Int) from rfl, u8_and_nat _ _ hd (by decide), Nat.and_one_is_mod, Nat.testBit_eq_decide_div_mod_eq]
  by_cases h : x / 2 ^ t % 2 = 1
  · rw [h]; rfl
  · have : x / 2 ^ t % 2 = 0 := by omega
    rw [this]; rfl
/-- The count at byte k, bit t. -/
def zat (xs : List Nat) (k t : Nat) : Nat := zeros (xs.take k) + zpart (xs.getD k 0) t
theorem zat_zero (xs : List Nat) (k : Nat) : zat xs k 0 = zeros (xs.take k) := rfl
theorem zat_le (xs : List Nat) (k t : Nat) : zat xs k t ≤ 8 * k + t := by
  have h1 : zeros (xs.take k) ≤ 8 * k := Nat.le_trans (zeros_le _) (Nat.mul_le_mul_left _ (List.length_take_le _ _))
  have h2 := zpart_le (xs.getD k 0) t
  unfold zat; omega
theorem zat_succ (xs : List Nat) (k t : Nat) : zat xs k (t + 1) = zat xs k t + bz ((xs.getD k 0).testBit t) := by
  unfold zat; rw [zpart]; omega
theorem zat_all (xs : List Nat) (k : Nat) (hk : k < xs.length) (hx : ∀ x ∈ xs, x < 256) : zat xs k 8 = zeros (xs.take (k + 1)) := by
  have := el_range hx k
  unfold zat
  rw [zeros_take_succ xs k hk, zpart_all _ (by unfold el at this; omega)]
theorem refZeros_any (p : Option Addr) (n c : Nat) (xs : List Nat) (w : World) (h : In w p n c xs) :
    Calls Try.prog 117 #[.slice p n c] w fun e w' => e = .returned (.int .i64 (zeros xs)) ∧ w' = w := by
  have hroom := h.room
  have HL : Hid (xs.length = n) := h.len
  go_enter Try.func117, Try.ntmps117
  go_wp2
  go_loop [3, 4] (fun m i => ∃ k : Nat, k ≤ n ∧ i = .int .i64 k ∧ m = .int .i64 (zeros (xs.take k))) (fun _ i => n - (intOf i).toNat)
  case atStart => exact ⟨0, Nat.zero_le _, rfl, rfl⟩
  case round =>
    obtain ⟨k, hk, rfl, rfl⟩ := hrel
    have hz : zeros (xs.take k) ≤ 8 * k := Nat.le_trans (zeros_le _) (Nat.mul_le_mul_left _ (List.length_take_le _ _))
    by_cases hlt : k < n
    · obtain ⟨b, o, rfl, hb, hc⟩ := h.at' (by omega)
      have hck := hc k hlt
      have HS : Hid (zeros (xs.take (k + 1)) = zeros (xs.take k) + zb (xs.getD k 0)) := zeros_take_succ xs k (by rw [HL.out]; exact hlt)
      clear hc
      go_wp2
      have HZ8 : Hid (zat xs k 8 = zeros (xs.take (k + 1))) := zat_all xs k (by rw [HL.out]; exact hlt) h.byte
      go_loop [3, 5] (fun m i => ∃ t : Nat, t ≤ 8 ∧ i = .int .i64 t ∧ m = .int .i64 (zat xs k t)) (fun _ i => 8 - (intOf i).toNat)
      case atStart => exact ⟨0, Nat.zero_le _, rfl, rfl⟩
      case round =>
        obtain ⟨t, ht, rfl, rfl⟩ := hrel
        have hzp := zat_le xs k t
        by_cases htl : t < 8
        · have HB : Hid ((bits .and .u8 (el xs k / 2 ^ t) 1 == 0) = !((xs.getD k 0).testBit t)) := bit_test _ t (by have := h.range k; unfold el at this; omega)
          have HS : Hid (zat xs k (t + 1) = zat xs k t + bz ((xs.getD k 0).testBit t)) := zat_succ xs k t
          go_wp2
          · rename_i hb1
            have hf : (xs.getD k 0).testBit t = false := by rw [HB.out] at hb1; simpa using hb1
            go_round
            case rel => exact ⟨t + 1, by omega, by go_num, val_int (by rw [HS.out, hf]; simp [bz])⟩
            case measure => simp [intOf]; omega
          · rename_i hb1
            have hf : (xs.getD k 0).testBit t = true := by rw [HB.out] at hb1; simpa using hb1
            go_round
            case rel => exact ⟨t + 1, by omega, by go_num, val_int (by rw [HS.out, hf]; simp [bz])⟩
            case measure => simp [intOf]; omega
        · have ht8 : t = 8 := by omega
          subst ht8
          go_wp2
          go_round
          case rel => exact ⟨k + 1, by omega, by go_num, val_int (by rw [HZ8.out])⟩
          case measure => simp [intOf]; omega
    · go_wp2
      go_ret
      exact ⟨ret_int (by rw [List.take_of_length_le (by rw [HL.out]; omega)]), rfl⟩
end Go.Proofs.Ytfgelncfmopibaa.Pg

namespace Go.Proofs.Ytfgelncfmopibaa.Pg
open Go.RowKit
/-- What Open answers beside State's error. -/
def openL (xs : List Nat) : List Nat := if stateL xs = 0 then xs.take (xs.length - 4) else []
theorem state_okL {ys : List Nat} (h : stateL ys = 0) : 4 ≤ ys.length ∧ ys.length ≤ 1048580 ∧ ys.drop (ys.length - 4) = cnt (ys.take (ys.length - 4)) := by
  unfold stateL at h
  split at h
  · simp at h
  · split at h
    · assumption
    · simp at h
end Go.Proofs.Ytfgelncfmopibaa.Pg

namespace Go.Proofs.Ytfgelncfmopibaa.Pg
open Go.RowKit
set_option maxRecDepth 100000 in
theorem refOnes_any (p : Option Addr) (n c : Nat) (xs : List Nat) (w : World) (hx : In w p n c xs) :
    Calls Try.prog 116 #[.slice p n c] w fun e w' => e = .returned (.bool (xs.all (· == 255))) ∧ w' = w := by
  have hroom := hx.room
  have HX : Hid (xs.length = n) := hx.len
  go_enter Try.func116, Try.ntmps116
  go_wp2
  go_loop [3] (fun i => ∃ k : Nat, k ≤ n ∧ i = .int .i64 k ∧ ∀ j, j < k → xs.getD j 0 = 255) (fun i => n - (intOf i).toNat)
  case atStart => exact ⟨0, Nat.zero_le _, rfl, fun j h => by omega⟩
  case round =>
    obtain ⟨k, hk, rfl, hall⟩ := hrel
    have HA : Hid (∀ j, j < k → xs.getD j 0 = 255) := hall
    clear hall
    by_cases hlt : k < n
    · obtain ⟨b, o, rfl, hb, hc⟩ := hx.at' (by omega)
      have hck := hc k hlt
      clear hc
      cases hv : (el xs k != 255) with
      | true =>
        have ht : el xs k ≠ 255 := by rw [bne_iff_ne] at hv; exact hv
        have HT : Hid (el xs k ≠ 255) := ht
        clear ht
        go_wp2
        go_ret
        refine ⟨ret_bool ?_, rfl⟩
        cases h : xs.all (· == 255) with
        | false => rfl
        | true =>
          have := (all_iff xs).1 h k (by rw [HX.out]; exact hlt)
          exact absurd (show el xs k = 255 by unfold el; rw [this]; rfl) HT.out
      | false =>
        have hf : xs.getD k 0 = 255 := by
          have := WalkArith.int_eq' hv
          unfold el at this; omega
        have HF : Hid (xs.getD k 0 = 255) := hf
        clear hf
        go_wp2
        go_round
        case rel =>
          refine ⟨k + 1, by omega, by go_num, fun j hj => ?_⟩
          rcases Nat.lt_succ_iff_lt_or_eq.1 hj with h | h
          · exact HA.out j h
          · rw [h]; exact HF.out
        case measure => simp [intOf]; omega
    · go_wp2
      go_ret
      refine ⟨ret_bool ?_, rfl⟩
      exact ((all_iff xs).2 fun j hj => HA.out j (by have := HX.out; omega)).symm
theorem cnt_cells (xs : List Nat) (h : zeros xs < 4294967296) : (#[Value.int IntKind.u8 ((zeros xs : Int) / 16777216), Value.int IntKind.u8 ((zeros xs : Int) / 65536 % 256), Value.int IntKind.u8 ((zeros xs : Int) / 256 % 256), Value.int IntKind.u8 ((zeros xs : Int) % 256)] : Array Value).toList = vals (cnt xs) := by
  simp only [cnt, cntZ, vals, List.map_cons, List.map_nil]
  have e1 : ((zeros xs : Int) / 16777216) = ((zeros xs / 16777216 % 256 : Nat) : Int) := by omega
  have e2 : ((zeros xs : Int) / 65536 % 256) = ((zeros xs / 65536 % 256 : Nat) : Int) := by omega
  have e3 : ((zeros xs : Int) / 256 % 256) = ((zeros xs / 256 % 256 : Nat) : Int) := by omega
  have e4 : ((zeros xs : Int) % 256) = ((zeros xs % 256 : Nat) : Int) := by omega
  rw [e1, e2, e3, e4]
end Go.Proofs.Ytfgelncfmopibaa.Pg

namespace Go.Proofs.Ytfgelncfmopibaa.Pg
open Go.RowKit
theorem i64_or (a b : Nat) (ha : a < 4611686018427387904) (hb : b < 4611686018427387904) : bits .or .i64 (a : Int) (b : Int) = ((a ||| b : Nat) : Int) := by
  have hx : a ||| b < 2 ^ 62 := Nat.or_lt_two_pow (by omega) (by omega)
  have h1 : (BitVec.ofInt 64 (a : Int)).toNat = a := by
    rw [BitVec.ofInt_natCast, BitVec.toNat_ofNat]; exact Nat.mod_eq_of_lt (by omega)
  have h2 : (BitVec.ofInt 64 (b : Int)).toNat = b := by
    rw [BitVec.ofInt_natCast, BitVec.toNat_ofNat]; exact Nat.mod_eq_of_lt (by omega)
  show IntKind.i64.wrap ((BitVec.ofInt 64 (a : Int) ||| BitVec.ofInt 64 (b : Int)).toNat : Int) = _
  rw [BitVec.toNat_or, h1, h2]
  have e : ((a ||| b : Nat) : Int) % 2 ^ 64 = ((a ||| b : Nat) : Int) := by omega
  simp only [IntKind.wrap, IntKind.bits, IntKind.signed, e]
  rw [if_neg (by simp only [Bool.true_and, decide_eq_true_eq]; omega)]
/-- Four bytes as a number, the highest one first. -/
def num4 (a b c d : Nat) : Nat := a * 16777216 + b * 65536 + c * 256 + d
theorem or4 (a b c d : Nat) (ha : a < 256) (hb : b < 256) (hc : c < 256) (hd : d < 256) :
    bits .or .i64 (bits .or .i64 (bits .or .i64 ((a : Int) * 16777216) ((b : Int) * 65536)) ((c : Int) * 256)) (d : Int) = ((num4 a b c d : Nat) : Int) := by
  have e1 : ((a : Int) * 16777216) = ((a * 16777216 : Nat) : Int) := by omega
  have e2 : ((b : Int) * 65536) = ((b * 65536 : Nat) : Int) := by omega
  have e3 : ((c : Int) * 256) = ((c * 256 : Nat) : Int) := by omega
  rw [e1, e2, e3, i64_or _ _ (by omega) (by omega)]
  have o1 : a * 16777216 ||| b * 65536 = a * 16777216 + b * 65536 := by
    have := Nat.two_pow_add_eq_or_of_lt (i := 24) (b := b * 65536) (by omega) a
    rw [show 2 ^ 24 * a = a * 16777216 from by omega] at this; exact this.symm
  rw [o1, i64_or _ _ (by omega) (by omega)]
  have o2 : (a * 16777216 + b * 65536) ||| c * 256 = a * 16777216 + b * 65536 + c * 256 := by
    have := Nat.two_pow_add_eq_or_of_lt (i := 16) (b := c * 256) (by omega) (a * 256 + b)
    rw [show 2 ^ 16 * (a * 256 + b) = a * 16777216 + b * 65536 from by omega] at this; exact this.symm
  rw [o2, i64_or _ _ (by omega) (by omega)]
  have o3 : (a * 16777216 + b * 65536 + c * 256) ||| d = num4 a b c d := by
    have := Nat.two_pow_add_eq_or_of_lt (i := 8) (b := d) (by omega) (a * 65536 + b * 256 + c)
    rw [show 2 ^ 8 * (a * 65536 + b * 256 + c) = a * 16777216 + b * 65536 + c * 256 from by omega] at this
    unfold num4; exact this.symm
  rw [o3]
theorem cnt_num {a b c d z : Nat} (_ha : a < 256) (hb : b < 256) (hc : c < 256) (hd : d < 256) (hz : z < 4294967296) : [a, b, c, d] = cntZ z ↔ num4 a b c d = z := by
  unfold cntZ num4
  simp only [List.cons.injEq, and_true]
  constructor
  · rintro ⟨h1, h2, h3, h4⟩
    have := val4 z hz
    omega
  · intro h
    have e1 : z / 65536 = z / 256 / 256 := by rw [Nat.div_div_eq_div_mul]
    have e2 : z / 16777216 = z / 256 / 256 / 256 := by rw [Nat.div_div_eq_div_mul, Nat.div_div_eq_div_mul]
    rw [e1, e2]
    omega
theorem drop4 (xs : List Nat) (k : Nat) (h : xs.length = k + 4) : xs.drop k = [xs.getD k 0, xs.getD (k + 1) 0, xs.getD (k + 2) 0, xs.getD (k + 3) 0] := by
  apply List.ext_getElem?
  intro i
  rw [List.getElem?_drop]
  have : i = 0 ∨ i = 1 ∨ i = 2 ∨ i = 3 ∨ 4 ≤ i := by omega
  rcases this with rfl | rfl | rfl | rfl | hi
  · simp [show k < xs.length by omega]
  · simp [show k + 1 < xs.length by omega]
  · simp [show k + 2 < xs.length by omega]
  · simp [show k + 3 < xs.length by omega]
  · rw [List.getElem?_eq_none (by omega), List.getElem?_eq_none (by simpa using hi)]
set_option maxRecDepth 100000 in
theorem refState_any (p : Option Addr) (n c : Nat) (xs : List Nat) (w : World) (hx : In w p n c xs) :
    Calls Try.prog 92 #[.slice p n c] w fun e w' => e = .returned (.int .i64 (stateL xs)) ∧ Below w.heap.size w w' := by
  have hroom := hx.room
  have hcap := hx.cap
  have HX : Hid (xs.length = n) := hx.len
  by_cases h0 : n = 0
  · have hd : ¬ (0 : Int) < (n : Int) := by omega
    have hd4 : (n : Int) < 4 := by omega
    have HE : Hid (stateL xs = 11) := by
      show _ = _
      unfold stateL
      rw [if_neg (by unfold erasedL; rw [HX.out, h0]; simp), if_neg (by rw [HX.out]; omega)]
    clear h0
    go_enter Try.func92, Try.ntmps92
    go_wp2
    go_ret
    exact ⟨ret_int HE.out.symm, Below.refl _ _⟩
  · have hd : (0 : Int) < (n : Int) := by omega
    cases he : xs.all (· == 255) with
    | true =>
      have HE : Hid (stateL xs = 10) := by
        show _ = _
        unfold stateL
        rw [if_pos (by unfold erasedL; rw [HX.out, he]; simp; omega)]
      have HA : Hid (xs.all (· == 255) = true) := he
      clear he
      go_enter Try.func92, Try.ntmps92
      go_wp2_with (go_at_call 116; refine (refOnes_any _ _ _ xs _ hx).mono ?_; rintro e w' ⟨rfl, hw'⟩; have hw2 := hw'.symm; subst hw2; clear hw'; rw [HA.out])
      go_ret
      exact ⟨ret_int HE.out.symm, Below.refl _ _⟩
    | false =>
      have HN : Hid (¬ erasedL xs = true) := by show ¬ _; unfold erasedL; rw [he]; simp
      have HA : Hid (xs.all (· == 255) = false) := he
      clear he
      by_cases hs : n < 4 ∨ 1048580 < n
      · have HE : Hid (stateL xs = 11) := by
          show _ = _
          unfold stateL
          rw [if_neg HN.out, if_neg (by rw [HX.out]; omega)]
        rcases hs with hs | hs
        · have h4 : (n : Int) < 4 := by omega
          go_enter Try.func92, Try.ntmps92
          go_wp2_with (go_at_call 116; refine (refOnes_any _ _ _ xs _ hx).mono ?_; rintro e w' ⟨rfl, hw'⟩; have hw2 := hw'.symm; subst hw2; clear hw'; rw [HA.out])
          go_ret
          exact ⟨ret_int HE.out.symm, Below.refl _ _⟩
        · have h4 : ¬ (n : Int) < 4 := by omega
          have h5 : (1048580 : Int) < (n : Int) := by omega
          go_enter Try.func92, Try.ntmps92
          go_wp2_with (go_at_call 116; refine (refOnes_any _ _ _ xs _ hx).mono ?_; rintro e w' ⟨rfl, hw'⟩; have hw2 := hw'.symm; subst hw2; clear hw'; rw [HA.out])
          go_ret
          exact ⟨ret_int HE.out.symm, Below.refl _ _⟩
      · obtain ⟨k, rfl⟩ : ∃ k, n = k + 4 := ⟨n - 4, by omega⟩
        obtain ⟨b, o, rfl, hb, hc⟩ := hx.at' (by omega)
        have h45 : (k : Int) ≤ 1048576 := by omega
        clear hs
        have hf := hx.front k (by omega)
        have hs2 := slice_front (some ⟨b, o, none⟩) (k + 4) c k (by omega) hcap
        have c0 := hc k (by omega)
        have c1 := hc (k + 1) (by omega)
        have c2 := hc (k + 2) (by omega)
        have c3 := hc (k + 3) (by omega)
        have r0 := hx.range k
        have r1 := hx.range (k + 1)
        have r2 := hx.range (k + 2)
        have r3 := hx.range (k + 3)
        clear hc
        go_enter Try.func92, Try.ntmps92
        go_wp2_with fail
        refine (refOnes_any _ _ _ xs _ hx).mono ?_
        rintro e w' ⟨rfl, hw'⟩
        subst hw'
        rw [HA.out]
        go_wp2_with fail
        go_quiet (fail)
        go_wp2_with fail
        refine (refZeros_any _ _ _ (xs.take k) _ (hf.below (below_drewN (Below.refl _ _) _))).mono ?_
        rintro e w2 ⟨rfl, hw2⟩
        subst hw2
        have HV : Hid (bits .or .i64 (bits .or .i64 (bits .or .i64 (el xs k * 16777216) (el xs (k + 1) * 65536)) (el xs (k + 2) * 256)) (el xs (k + 3)) = ((num4 (xs.getD k 0) (xs.getD (k + 1) 0) (xs.getD (k + 2) 0) (xs.getD (k + 3) 0) : Nat) : Int)) := by
          show _ = _
          unfold el at r0 r1 r2 r3
          exact or4 _ _ _ _ (by omega) (by omega) (by omega) (by omega)
        have HD : Hid (xs.drop k = cnt (xs.take k) ↔ num4 (xs.getD k 0) (xs.getD (k + 1) 0) (xs.getD (k + 2) 0) (xs.getD (k + 3) 0) = zeros (xs.take k)) := by
          have hz := zeros_le (xs.take k)
          rw [hf.len] at hz
          unfold el at r0 r1 r2 r3
          show _ ↔ _
          rw [drop4 xs k HX.out]
          exact cnt_num (by omega) (by omega) (by omega) (by omega) (by omega)
        by_cases hq : num4 (xs.getD k 0) (xs.getD (k + 1) 0) (xs.getD (k + 2) 0) (xs.getD (k + 3) 0) = zeros (xs.take k)
        · have hb1 : (bits .or .i64 (bits .or .i64 (bits .or .i64 (el xs k * 16777216) (el xs (k + 1) * 65536)) (el xs (k + 2) * 256)) (el xs (k + 3)) != ((zeros (xs.take k) : Nat) : Int)) = false := by rw [HV.out, hq]; simp
          have HE : Hid (stateL xs = 0) := by
            show _ = _
            unfold stateL
            rw [if_neg HN.out, if_pos ⟨by rw [HX.out]; omega, by rw [HX.out]; omega, by rw [HX.out, show k + 4 - 4 = k from by omega]; exact HD.out.2 hq⟩]
          clear hq c0 c1 c2 c3 r0 r1 r2 r3
          go_wp2
          go_ret
          exact ⟨ret_int HE.out.symm, below_drewN (Below.refl _ _) _⟩
        · have hb1 : (bits .or .i64 (bits .or .i64 (bits .or .i64 (el xs k * 16777216) (el xs (k + 1) * 65536)) (el xs (k + 2) * 256)) (el xs (k + 3)) != ((zeros (xs.take k) : Nat) : Int)) = true := by rw [HV.out, bne_iff_ne]; omega
          have HE : Hid (stateL xs = 11) := by
            show _ = _
            unfold stateL
            rw [if_neg HN.out, if_neg (by rw [HX.out, show k + 4 - 4 = k from by omega]; intro h; exact hq (HD.out.1 h.2.2))]
          clear hq c0 c1 c2 c3 r0 r1 r2 r3
          go_wp2
          go_ret
          exact ⟨ret_int HE.out.symm, below_drewN (Below.refl _ _) _⟩
set_option maxRecDepth 100000 in
theorem refOpen_any (p : Option Addr) (n c : Nat) (xs : List Nat) (w : World) (hx : In w p n c xs) :
    Calls Try.prog 62 #[.slice p n c] w fun e w' => ∃ p' n' c', e = .returned (.tuple #[.slice p' n' c', .int .i64 (stateL xs)]) ∧ In w' p' n' c' (openL xs) ∧ Below w.heap.size w w' := by
  have hroom := hx.room
  have HX : Hid (xs.length = n) := hx.len
  obtain ⟨i0, hi, hz0, hz1, hz2⟩ := info_parts info5
  by_cases hs : stateL xs = 0
  · obtain ⟨h4, h5, _⟩ := state_okL hs
    rw [hx.len] at h4 h5
    have HS : Hid (stateL xs = 0) := hs
    have HO : Hid (openL xs = xs.take (n - 4)) := by show _ = _; unfold openL; rw [if_pos hs, HX.out]
    clear hs
    obtain ⟨k, rfl⟩ : ∃ k, n = k + 4 := ⟨n - 4, by omega⟩
    obtain ⟨b, o, rfl, _, _⟩ := hx.at' (by omega)
    have hf := hx.front k (by omega)
    have hs2 := slice_front (some ⟨b, o, none⟩) (k + 4) c k (by omega) hx.cap
    have HF : Hid ((xs.take k).length = k) := hf.len
    go_enter Try.func62, Try.ntmps62
    go_wp2_with fail
    refine (refState_any _ (k + 4) c xs _ hx).mono ?_
    rintro e w1 ⟨rfl, hb1⟩
    rw [HS.out]
    have hf1 := hf.below hb1
    go_wp2_with (at_builtin; refine wpList_append_own _ rfl (.tmp 11) (.tmp 16) 75 rfl w1.heap.size 5 i0 (.int .u8 0) 1 1 Try.underlying75 hi hz0 hz1 hz2 rfl (by decide) (.slice none 0 0) 0 [] rfl (World.ownsRow_nil _ _ _ _) ⟨b, o, none⟩ k c (vals (xs.take k)) rfl (by rw [vals_length, HF.out, Nat.mul_one]) (hf1.cells rfl) (vals_one _) (by unfold maxLen; omega) (by omega) (Nat.le_refl _) ?_; intro v2 w2 hown2 hgrow2 _)
    have hb2 := below_grown0 (w1 := w2) hgrow2
    go_ret2
    rw [List.nil_append] at hown2
    obtain ⟨p', c', hv, hin⟩ := in_of_owns hown2 hf.byte (by omega)
    cases hv
    rw [HO.out, HS.out, show k + 4 - 4 = k from by omega]
    exact ⟨_, _, _, rfl, hin, hb1.trans (hb2.mono hb1.size)⟩
  · have hne : (stateL xs != 0) = true := by rw [bne_iff_ne]; exact hs
    have HO : Hid (openL xs = []) := by show _ = _; unfold openL; rw [if_neg hs]
    clear hs
    go_enter Try.func62, Try.ntmps62
    go_wp2_with fail
    refine (refState_any p n c xs _ hx).mono ?_
    rintro e w1 ⟨rfl, hb1⟩
    go_wp2
    go_ret2
    rw [HO.out]
    exact ⟨_, _, _, rfl, In.empty _, hb1⟩
end Go.Proofs.Ytfgelncfmopibaa.Pg

namespace Go.Proofs.Ytfgelncfmopibaa.Pg
open Go.RowKit
theorem qcheck_any (k g s t : Int) (w : World) :
    Calls Try.prog 31 #[.agg #[.int .i64 k, .int .i64 g, .int .i64 s, .int .i64 t]] w fun e w' => e = .returned (.int .i64 (chkE k g s t)) ∧ Below w.heap.size w w' := by
  by_cases h1 : k < 1
  · rw [chk_no (by omega)]
    go_enter Try.func31, Try.ntmps31
    go_wp2
    go_ret
    exact ⟨rfl, below_alloc _ _⟩
  by_cases h2 : 3 < k
  · rw [chk_no (by omega)]
    go_enter Try.func31, Try.ntmps31
    go_wp2
    go_ret
    exact ⟨rfl, below_alloc _ _⟩
  by_cases h3 : g < 0
  · rw [chk_no (by omega)]
    go_enter Try.func31, Try.ntmps31
    go_wp2
    go_ret
    exact ⟨rfl, below_alloc _ _⟩
  by_cases h4 : 1048576 ≤ g
  · rw [chk_no (by omega)]
    go_enter Try.func31, Try.ntmps31
    go_wp2
    go_ret
    exact ⟨rfl, below_alloc _ _⟩
  by_cases h5 : s < 1
  · rw [chk_no (by omega)]
    go_enter Try.func31, Try.ntmps31
    go_wp2
    go_ret
    exact ⟨rfl, below_alloc _ _⟩
  by_cases h7 : t < s
  · rw [chk_no (by omega)]
    go_enter Try.func31, Try.ntmps31
    go_wp2
    go_ret
    exact ⟨rfl, below_alloc _ _⟩
  by_cases h8 : 1152921504606846976 < t
  · rw [chk_no (by omega)]
    go_enter Try.func31, Try.ntmps31
    go_wp2
    go_ret
    exact ⟨rfl, below_alloc _ _⟩
  by_cases h9 : k = 1
  · have hb : (k != 1) = false := by rw [h9]; rfl
    rw [chk_ok (by omega)]
    clear h9
    go_enter Try.func31, Try.ntmps31
    go_wp2
    go_ret
    exact ⟨rfl, below_alloc _ _⟩
  have hb : (k != 1) = true := by rw [bne_iff_ne]; exact h9
  by_cases h10 : t = s
  · have hc : (t != s) = false := by rw [h10]; simp
    rw [chk_ok (by omega)]
    clear h9 h10
    go_enter Try.func31, Try.ntmps31
    go_wp2
    go_ret
    exact ⟨rfl, below_alloc _ _⟩
  · have hc : (t != s) = true := by rw [bne_iff_ne]; exact h10
    rw [chk_no (by omega)]
    clear h9 h10
    go_enter Try.func31, Try.ntmps31
    go_wp2
    go_ret
    exact ⟨rfl, below_alloc _ _⟩
/-- The first k bytes of xs, then zeros. -/
def partX (xs : List Nat) (k : Nat) : List Nat := xs.take k ++ List.replicate (288 - k) 0
theorem partX_zero (xs : List Nat) : partX xs 0 = fillP 0 := by rw [partX, fillP, List.take_zero, List.nil_append, Nat.sub_zero]
theorem partX_all {xs : List Nat} (h : xs.length = 288) : partX xs 288 = xs := by
  unfold partX; rw [List.take_of_length_le (by omega), Nat.sub_self, List.replicate_zero, List.append_nil]
theorem partX_length {xs : List Nat} (h : xs.length = 288) (k : Nat) (hk : k ≤ 288) : (partX xs k).length = 288 := by
  unfold partX; rw [List.length_append, List.length_take, List.length_replicate]; omega
theorem partX_set {xs : List Nat} (h : xs.length = 288) (k : Nat) (hk : k < 288) : (vals (partX xs k)).set k (.int .u8 (el xs k)) = vals (partX xs (k + 1)) := by
  have hl : (vals (xs.take k)).length = k := by rw [vals_length, List.length_take]; omega
  obtain ⟨m, hm⟩ : ∃ m, 288 - k = m + 1 := ⟨287 - k, by omega⟩
  have hm' : 288 - (k + 1) = m := by omega
  unfold partX
  rw [hm, hm', vals_append, vals_append, List.set_append_right _ _ (by omega), hl, Nat.sub_self, List.replicate_succ, take_succ_getD xs k (by omega), vals_append, List.append_assoc]
  rfl
theorem partX_get {xs : List Nat} (h : xs.length = 288) (k i : Nat) (hk : k ≤ 288) (hi : i < 288) : ∃ u, (vals (partX xs k))[i]? = some u :=
  ⟨_, vals_get (partX xs k) i (by rw [partX_length h k hk]; exact hi)⟩
set_option maxRecDepth 100000 in
set_option maxHeartbeats 2000000 in
theorem qbytes_any (P : List Nat) (hP : IsP P) (w : World) :
    Calls Try.prog 63 #[.agg (vals P).toArray] w fun e w' => ∃ p c, e = .returned (.slice p 288 c) ∧ In w' p 288 c P ∧ Below w.heap.size w w' := by
  obtain ⟨i0, hi, hz0, hz1, hz2⟩ := info_parts info5
  have b0 := Blk.new w 74 (vals P)
  have hbel := below_alloc w (.cells (vals P).toArray 74)
  generalize hW : w.alloc (.cells (vals P).toArray 74) = W at *
  have hlt : w.heap.size < W.heap.size := b0.lt
  go_enter Try.func63, Try.ntmps63
  go_wp2_with (first
    | (at_builtin; refine wpList_append_own _ rfl (.tmp 4) (.tmp 6) 75 rfl w.heap.size 5 i0 (.int .u8 0) 1 1 Try.underlying75 hi hz0 hz1 hz2 rfl (by decide) (.slice none 0 0) 0 [] rfl (World.ownsRow_nil _ _ _ _) ⟨w.heap.size, 0, none⟩ 256 256 (vals (P.take 256)) rfl (by rw [vals_length, List.length_take, hP.1]; rfl) (bytesTake b0) (vals_one _) (by unfold maxLen; omega) (by omega) (by omega) ?_; intro v1 w1 hown1 hgrow1 _; rw [List.nil_append, Nat.zero_add] at hown1; have b1 := Blk.grown b0 hgrow1 (by simp [Value.ownBlock]); have hb1 : Below w.heap.size w w1 := hbel.grown hgrow1 (by omega) (fun k hk => by simp [Value.ownBlock] at hk))
    | (at_builtin; refine wpList_append_own _ rfl (.tmp 8) (.tmp 10) 75 rfl w.heap.size 5 i0 (.int .u8 0) 1 1 Try.underlying75 hi hz0 hz1 hz2 rfl (by decide) _ 256 (vals (P.take 256)) rfl hown1 ⟨w.heap.size, 256, none⟩ 32 32 (vals (P.drop 256)) rfl (by rw [vals_length, List.length_drop, hP.1]) (bytesDrop b1) (vals_one _) (by unfold maxLen; omega) (by omega) hb1.size ?_; intro v2 w2 hown2 hgrow2 _; rw [← vals_append, List.take_append_drop] at hown2; have hb2 : Below w.heap.size w w2 := hb1.grown hgrow2 hb1.size (fun k hk => (hown1.lt k hk).1)))
  go_ret
  obtain ⟨p', c', hv, hin⟩ := in_of_owns hown2 hP.2 (by omega)
  exact ⟨p', c', congrArg Ending.returned hv, hin, hb2⟩
end Go.Proofs.Ytfgelncfmopibaa.Pg

namespace Go.Proofs.Ytfgelncfmopibaa.Pg
open Go.RowKit
/-- The widths of the fields that are named. -/
def ws5 : List Int := [8, 8, 32, 64, 64]
theorem ws5_ok : widthOk ws5 = true := by decide +kernel
theorem ws5_bytes : bytesW ws5 = 22 := by decide +kernel
theorem bitAt_left (A B : List Nat) (j : Nat) (h : j < 8 * A.length) : bitAt (A ++ B) j = bitAt A j := by
  unfold bitAt
  rw [show (A ++ B).getD (j / 8) 0 = A.getD (j / 8) 0 from by simp [List.getElem?_append, show j / 8 < A.length by omega]]
theorem bitAt_right0 (A : List Nat) (m j : Nat) (h : 8 * A.length ≤ j) : bitAt (A ++ List.replicate m 0) j = false := by
  have e : (A ++ List.replicate m 0).getD (j / 8) 0 = 0 := by
    rw [List.getD_eq_getElem?_getD, List.getElem?_append_right (by omega)]
    by_cases hh : j / 8 - A.length < m
    · simp [hh]
    · simp [hh]
  unfold bitAt
  rw [e, Nat.zero_testBit]
theorem getN_left (A B : List Nat) (p w : Nat) (h : p + w ≤ 8 * A.length) : getN (A ++ B) p w = getN A p w :=
  getN_of_bits _ _ _ _ (getN_lt A p w) fun t ht => by rw [bitAt_left A B (p + t) (by omega), getN_bit A p w t ht]
theorem getN_right0 (A : List Nat) (m p w : Nat) (h : 8 * A.length ≤ p) : getN (A ++ List.replicate m 0) p w = 0 :=
  getN_of_bits _ _ _ _ (Nat.two_pow_pos w) fun t ht => by rw [bitAt_right0 A m (p + t) (by omega), Nat.zero_testBit]
def headV5 (k g s t : Int) : List Nat := [k.toNat, 0, g.toNat, s.toNat, t.toNat]
theorem head5_ok {k g s t : Int} (h : chkB k g s t = true) : packOk ws5 (headV5 k g s t) = true := by
  have hc := chkB_iff.1 h
  unfold packOk
  rw [ws5_ok, Bool.true_and, fitB_iff]
  refine ⟨rfl, fun i hi => ?_⟩
  have hi' : i < 5 := hi
  have : i = 0 ∨ i = 1 ∨ i = 2 ∨ i = 3 ∨ i = 4 := by omega
  rcases this with rfl | rfl | rfl | rfl | rfl
  · show k.toNat < 2 ^ 8; omega
  · show 0 < 2 ^ 8; decide
  · show g.toNat < 2 ^ 32; omega
  · show s.toNat < 2 ^ 64; omega
  · show t.toNat < 2 ^ 64; omega
theorem pack5_length {vs : List Nat} (h : packOk ws5 vs = true) : (packL ws5 vs).length = 22 := by
  unfold packL; rw [if_pos h, packTo_length, List.length_replicate, ws5_bytes]
theorem pack5_byte {vs : List Nat} (h : packOk ws5 vs = true) : ∀ x ∈ packL ws5 vs, x < 256 := by
  unfold packL; rw [if_pos h]; exact packTo_byte (fun x hx => by rw [List.eq_of_mem_replicate hx]; decide) _
/-- The fields that stand in the first 22 bytes. -/
theorem vals5 (A B : List Nat) (hA : A.length = 22) : ∀ i, i < 5 → (valsTo wsH (A ++ B) 6).getD i 0 = (valsTo ws5 A 5).getD i 0 := by
  intro i hi
  have e1 := valsTo_getD wsH (A ++ B) i (show i < 6 by omega)
  have e2 := valsTo_getD ws5 A i hi
  rw [show (valsTo wsH (A ++ B) 6) = valsTo wsH (A ++ B) wsH.length from rfl, e1, show (valsTo ws5 A 5) = valsTo ws5 A ws5.length from rfl, e2]
  have : i = 0 ∨ i = 1 ∨ i = 2 ∨ i = 3 ∨ i = 4 := by omega
  rcases this with rfl | rfl | rfl | rfl | rfl
  · exact getN_left A B 0 8 (by omega)
  · exact getN_left A B 8 8 (by omega)
  · exact getN_left A B 16 32 (by omega)
  · exact getN_left A B 48 64 (by omega)
  · exact getN_left A B 112 64 (by omega)
theorem six {l : List Nat} (h : l.length = 6) : l = [l.getD 0 0, l.getD 1 0, l.getD 2 0, l.getD 3 0, l.getD 4 0, l.getD 5 0] := by
  match l, h with
  | [a, b, c, d, e, f], _ => rfl
theorem head_same {k g s t : Int} (h : chkB k g s t = true) : packL ws5 (headV5 k g s t) ++ List.replicate 6 0 = headL k g s t := by
  have h5 := head5_ok h
  have hl := pack5_length h5
  have hth := there h5
  have hlen : (packL ws5 (headV5 k g s t) ++ List.replicate 6 0).length = 28 := by rw [List.length_append, hl, List.length_replicate]
  have hb : ∀ x ∈ packL ws5 (headV5 k g s t) ++ List.replicate 6 0, x < 256 := by
    intro x hx
    rcases List.mem_append.1 hx with h' | h'
    · exact pack5_byte h5 x h'
    · rw [List.eq_of_mem_replicate h']; decide
  have hu : unpackL wsH (packL ws5 (headV5 k g s t) ++ List.replicate 6 0) = headV k g s t := by
    have hv5 : valsTo ws5 (packL ws5 (headV5 k g s t)) 5 = headV5 k g s t := by
      have e : unpackL ws5 (packL ws5 (headV5 k g s t)) = valsTo ws5 (packL ws5 (headV5 k g s t)) 5 := by
        unfold unpackL; rw [if_pos hth.1]; rfl
      rw [← e]; exact hth.2
    rw [head_unpackL hlen]
    have hl6 : (valsTo wsH (packL ws5 (headV5 k g s t) ++ List.replicate 6 0) 6).length = 6 := valsTo_length _ _ _
    have h5' : (valsTo wsH (packL ws5 (headV5 k g s t) ++ List.replicate 6 0) 6).getD 5 0 = 0 := by
      have e1 := valsTo_getD wsH (packL ws5 (headV5 k g s t) ++ List.replicate 6 0) 5 (by decide)
      rw [show (valsTo wsH (packL ws5 (headV5 k g s t) ++ List.replicate 6 0) 6) = valsTo wsH (packL ws5 (headV5 k g s t) ++ List.replicate 6 0) wsH.length from rfl, e1]
      exact getN_right0 _ 6 176 48 (by omega)
    rw [six hl6, vals5 _ _ hl 0 (by decide), vals5 _ _ hl 1 (by decide), vals5 _ _ hl 2 (by decide), vals5 _ _ hl 3 (by decide), vals5 _ _ hl 4 (by decide), h5', hv5]
    rfl
  have hab := (andBack hb (head_unpackE hlen)).2
  rw [hu] at hab
  exact hab.symm
/-- How many elements a slice has. -/
def sliceLen : Value → Nat
  | .slice _ n _ => n
  | _ => 0
theorem zero_snoc (X : List Nat) (k : Nat) : vals (X ++ List.replicate k 0) ++ [.int .u8 0] = vals (X ++ List.replicate (k + 1) 0) := by
  rw [List.replicate_succ', ← List.append_assoc, vals_append (X ++ List.replicate k 0)]
  rfl
set_option maxRecDepth 100000 in
set_option maxHeartbeats 4000000 in
theorem qheader_ok (k g s t : Nat) (w : World) (hok : chkB k g s t = true) :
    Calls Try.prog 65 #[.agg #[.int .i64 k, .int .i64 g, .int .i64 s, .int .i64 t]] w fun e w' => ∃ p c, e = .returned (.slice p 28 c) ∧ In w' p 28 c (headL k g s t) ∧ Below w.heap.size w w' := by
  obtain ⟨i0, hi, hz0, hz1, hz2⟩ := info_parts info5
  have b0 := Blk.new' w 31 #[.int .i64 k, .int .i64 g, .int .i64 s, .int .i64 t]
  have hbel := below_alloc w (.cells #[.int .i64 k, .int .i64 g, .int .i64 s, .int .i64 t] 31)
  have HOK : Hid (chkB k g s t = true) := hok
  have hv : headV5 (k : Int) (g : Int) (s : Int) (t : Int) = [k, 0, g, s, t] := by simp [headV5]
  have HP : Hid (packE ws5 [k, 0, g, s, t] = 0) := by
    show _ = _
    have h1 := head5_ok hok
    rw [hv] at h1
    unfold packE; rw [h1]; rfl
  have HL : Hid ((packL ws5 [k, 0, g, s, t]).length = 22) := by
    show _ = _
    have h1 := head5_ok hok
    rw [hv] at h1
    exact pack5_length h1
  have HS : Hid (packL ws5 [k, 0, g, s, t] ++ List.replicate 6 0 = headL k g s t) := by
    show _ = _
    have := head_same hok
    rwa [hv] at this
  have HW : Hid (IntKind.u64.wrap (k : Int) = (k : Int) ∧ IntKind.u64.wrap (g : Int) = (g : Int) ∧ IntKind.u64.wrap (s : Int) = (s : Int) ∧ IntKind.u64.wrap (t : Int) = (t : Int)) := wrap4 hok
  have HM : Hid (∀ x ∈ [k, 0, g, s, t], x < 18446744073709551616) := fun x hx => lim4 hok x (by simp only [List.mem_cons, List.not_mem_nil, or_false] at hx ⊢; omega)
  clear hok hv
  go_enter Try.func65, Try.ntmps65
  go_wp2_with fail
  rw [HW.out.1, HW.out.2.1, HW.out.2.2.1, HW.out.2.2.2]
  have hI := (in_litI (w.alloc (.cells #[.int .i64 k, .int .i64 g, .int .i64 s, .int .i64 t] 31)) (cs := #[.int .i64 8, .int .i64 8, .int .i64 32, .int .i64 64, .int .i64 64]) (xs := ws5) (n := 5) rfl rfl (by decide)).below (below_alloc _ (Obj.cells #[.int .u64 k, .int .u64 0, .int .u64 g, .int .u64 s, .int .u64 t] 114))
  have h64 := in_lit64 ((w.alloc (.cells #[.int .i64 k, .int .i64 g, .int .i64 s, .int .i64 t] 31)).alloc (.cells #[.int .i64 8, .int .i64 8, .int .i64 32, .int .i64 64, .int .i64 64] 3)) (cs := #[.int .u64 k, .int .u64 0, .int .u64 g, .int .u64 s, .int .u64 t]) (xs := [k, 0, g, s, t]) (n := 5) rfl rfl HM.out (by decide)
  simp only [World.size_alloc] at hI h64
  refine (refPack_owns _ _ 5 5 5 5 ws5 [k, 0, g, s, t] _ hI h64).mono ?_
  rintro e w1 ⟨v1, n1, rfl, hown1, hby1, hn1, hb1⟩
  rw [HP.out]
  have hB1 : Below w.heap.size w w1 := bt (((below_alloc w _).alloc (by simp) _).alloc (by simp; omega) _) hb1
  have e1 : n1 = 22 := by have := hown1.1; rw [vals_length, HL.out] at this; omega
  subst e1
  have hBs := hb1.size
  clear hI h64 hb1 b0 hbel
  generalize hB : (((w.alloc (.cells #[.int .i64 k, .int .i64 g, .int .i64 s, .int .i64 t] 31)).alloc (.cells #[.int .i64 8, .int .i64 8, .int .i64 32, .int .i64 64, .int .i64 64] 3)).alloc (.cells #[.int .u64 k, .int .u64 0, .int .u64 g, .int .u64 s, .int .u64 t] 114)).heap.size = B at *
  have hwB : w.heap.size ≤ B := by rw [← hB]; simp; omega
  clear hB
  generalize hX : packL ws5 [k, 0, g, s, t] = X at *
  clear hX
  go_wp2
  go_loopw [3] (fun v wr => ∃ j : Nat, j ≤ 6 ∧ wr.ownsRow B 5 1 v (22 + j) (vals (X ++ List.replicate j 0)) ∧ Below w.heap.size w wr ∧ B ≤ wr.heap.size) (fun v _ => 28 - sliceLen v)
  case atStart => exact ⟨0, by omega, by simpa using hown1, hB1, hBs⟩
  case round =>
    clear hown1 hB1 hBs
    obtain ⟨j, hj, hown, hbl, hsz⟩ := hrel
    obtain ⟨p2, c2, rfl⟩ := owns_slice hown
    by_cases hlt : j < 6
    · have hd : ((22 + j : Nat) : Int) < 28 := by omega
      go_wp2_with (at_builtin; refine wpList_append_own _ rfl (.tmp 26) (.tmp 27) 75 rfl B 5 i0 (.int .u8 0) 1 1 Try.underlying75 hi hz0 hz1 hz2 rfl (by decide) _ (22 + j) _ rfl (hown.alloc _) ⟨wr.heap.size, 0, none⟩ 1 1 [.int .u8 0] rfl rfl (one_cell_at _ _) (by intro u hu; simp at hu; subst hu; rfl) (by unfold maxLen; omega) (by omega) (by simp; omega) ?_; intro v3 w3 hown3 hgrow3 _; rw [zero_snoc] at hown3; have hb3 : Below w.heap.size w w3 := (hbl.alloc hbl.size _).grown hgrow3 (by have := hbl.size; simp; omega) (fun q hq => by have := (hown.lt q hq).1; omega); have hs3 : B ≤ w3.heap.size := Nat.le_trans hsz (Nat.le_trans (by simp) hgrow3.size))
      obtain ⟨p3, c3, rfl⟩ := owns_slice hown3
      go_roundw
      case rel => exact ⟨j + 1, by omega, hown3, hb3, hs3⟩
      case measure => simp [sliceLen]; omega
    · have hj6 : j = 6 := by omega
      subst hj6
      rw [HS.out] at hown
      go_wp2
      go_ret
      obtain ⟨p4, c4, hv, hin⟩ := in_of_owns hown (headL_byte HOK.out) (by omega)
      exact ⟨p4, c4, congrArg Ending.returned hv, hin, hbl⟩
theorem qheader_any (k g s t : Int) (w : World) (hok : chkB k g s t = true) :
    Calls Try.prog 65 #[.agg #[.int .i64 k, .int .i64 g, .int .i64 s, .int .i64 t]] w fun e w' => ∃ p c, e = .returned (.slice p 28 c) ∧ In w' p 28 c (headL k g s t) ∧ Below w.heap.size w w' := by
  have hc := chkB_iff.1 hok
  obtain ⟨k', rfl⟩ := Int.eq_ofNat_of_zero_le (show 0 ≤ k by omega)
  obtain ⟨g', rfl⟩ := Int.eq_ofNat_of_zero_le (show 0 ≤ g by omega)
  obtain ⟨s', rfl⟩ := Int.eq_ofNat_of_zero_le (show 0 ≤ s by omega)
  obtain ⟨t', rfl⟩ := Int.eq_ofNat_of_zero_le (show 0 ≤ t by omega)
  exact qheader_ok k' g' s' t' w hok
end Go.Proofs.Ytfgelncfmopibaa.Pg

namespace Go.Proofs.Ytfgelncfmopibaa.Pg
open Go.RowKit
/-- A page's 28 bytes of header. -/
def x28 (P : List Nat) : List Nat := (P.drop 256).take 28
theorem x28_length {P : List Nat} (hP : IsP P) : (x28 P).length = 28 := by unfold x28; rw [List.length_take, List.length_drop, hP.1]; rfl
theorem x28_byte {P : List Nat} (hP : IsP P) : ∀ x ∈ x28 P, x < 256 := fun x hx => hP.2 x (List.mem_of_mem_drop (List.mem_of_mem_take hx))
theorem fillD_full {D : List Nat} (h : D.length = 256) : fillD D = D := by unfold fillD; rw [h]; simp
theorem page_parts {P : List Nat} (hP : IsP P) (hs : stateL P = 0) : P = (P.take 256 ++ x28 P) ++ cnt (P.take 256 ++ x28 P) := by
  obtain ⟨_, _, h3⟩ := state_okL hs
  rw [hP.1, show 288 - 4 = 284 from rfl] at h3
  have e : P.take 284 = P.take 256 ++ x28 P := by
    unfold x28
    rw [show 284 = 256 + 28 from rfl, List.take_add]
  conv => lhs; rw [← List.take_append_drop 284 P, h3, e]
theorem dec_iff {P : List Nat} (hP : IsP P) (hs : stateL P = 0) : decOk P = (chkB (hv0 P) (hv1 P) (hv2 P) (hv3 P) && headL (hv0 P) (hv1 P) (hv2 P) (hv3 P) == x28 P) := by
  have hl : (P.take 256).length = 256 := by rw [List.length_take, hP.1]; rfl
  cases hc : chkB (hv0 P) (hv1 P) (hv2 P) (hv3 P) with
  | false =>
    have e : agE P = 30 := by unfold agE encE; rw [hc]; rfl
    unfold decOk; rw [e]; rfl
  | true =>
    have e : agE P = 0 := by unfold agE encE; rw [hc, if_pos rfl, if_neg (by omega)]
    have e2 : agP P = (P.take 256 ++ headL (hv0 P) (hv1 P) (hv2 P) (hv3 P)) ++ cnt (P.take 256 ++ headL (hv0 P) (hv1 P) (hv2 P) (hv3 P)) := by
      have e0 : encE (hv0 P) (hv1 P) (hv2 P) (hv3 P) (P.take 256) = 0 := e
      unfold agP encP; rw [if_pos e0]; unfold encL bodyL; rw [fillD_full hl]
    unfold decOk
    rw [e, show ((0 : Int) == 0) = true from rfl, Bool.true_and, Bool.true_and]
    have hpp := page_parts hP hs
    have hh := headL_length hc
    generalize headL (hv0 P) (hv1 P) (hv2 P) (hv3 P) = X at *
    by_cases hx : X = x28 P
    · rw [beq_iff_eq.2 hx]
      rw [e2, hx, ← hpp]
      simp
    · rw [beq_eq_false_iff_ne.2 hx]
      refine beq_eq_false_iff_ne.2 (fun h => hx ?_)
      have h1 : (agP P).drop 256 = X ++ cnt (P.take 256 ++ X) := by
        rw [e2, List.append_assoc, List.drop_append, List.drop_of_length_le (by omega), hl, List.nil_append, Nat.sub_self, List.drop_zero]
      have h2 : ((agP P).drop 256).take 28 = X := by rw [h1, List.take_append_of_le_length (by omega), List.take_of_length_le (by omega)]
      rw [h] at h2
      exact h2.symm
theorem fld_lim (P : List Nat) (i : Nat) : fld P i < 18446744073709551616 := by
  unfold fld
  have h := valsTo_lim wsH_ok ((P.drop 256).take 28) 6
  by_cases hi : i < (valsTo wsH ((P.drop 256).take 28) 6).length
  · have := h _ (List.getElem_mem hi)
    simpa [hi] using this
  · rw [List.getD_eq_getElem?_getD, List.getElem?_eq_none (by omega)]
    decide
theorem chk_small {P : List Nat} (h : chkB (hv0 P) (hv1 P) (hv2 P) (hv3 P) = true) : (fld P 3 : Int) ≤ 1152921504606846976 ∧ (fld P 4 : Int) ≤ 1152921504606846976 := by
  have hc := chkB_iff.1 h
  have h3 := fld_lim P 3
  have h4 := fld_lim P 4
  have e2 : hv2 P = IntKind.i64.wrap (fld P 3) := rfl
  have e3 : hv3 P = IntKind.i64.wrap (fld P 4) := rfl
  rw [IntKind.wrap_i64] at e2 e3
  omega
/-- The fields, by the widths that are named. -/
theorem fld5 (P : List Nat) (hP : IsP P) (i : Nat) (hi : i < 5) : (valsTo ws5 ((x28 P).take 22) 5).getD i 0 = fld P i := by
  have hl := x28_length hP
  have := vals5 ((x28 P).take 22) ((x28 P).drop 22) (by rw [List.length_take, hl]; rfl) i hi
  rw [List.take_append_drop] at this
  exact this.symm
theorem unpack5_E {xs : List Nat} (h : xs.length = 22) : unpackE ws5 xs = 0 := by
  have ht : tailN ws5 xs = 0 := by
    unfold tailN
    rw [ws5_bytes, show atW ws5 ws5.length = 176 from by decide +kernel]
    rfl
  unfold unpackE
  rw [if_neg (by rw [ws5_ok]; decide), if_neg (by rw [h, ws5_bytes]; decide), if_neg (by rw [ht]; decide)]
theorem unpack5_L {xs : List Nat} (h : xs.length = 22) : unpackL ws5 xs = valsTo ws5 xs 5 := by
  unfold unpackL; rw [if_pos (unpack5_E h)]; rfl
theorem refUnpack5 (p q : Option Addr) (d : Nat) (xs : List Nat) (w : World) (hx : InI w p 5 5 ws5) (hy : In w q 22 d xs) :
    Calls Try.prog 64 #[.slice p 5 5, .slice q 22 d] w fun e w' => ∃ p' c', e = .returned (.tuple #[.slice p' 5 c', .int .i64 0]) ∧ In64 w' p' 5 c' (valsTo ws5 xs 5) ∧ Below w.heap.size w w' := by
  refine (refUnpack_any p q 5 5 22 d ws5 xs w hx hy).mono ?_
  rintro e w1 ⟨p', n', c', rfl, hin, hb⟩
  rw [unpack5_L hy.len] at hin
  have e3 : n' = 5 := by rw [← hin.len, valsTo_length]; rfl
  subst e3
  rw [unpack5_E hy.len]
  exact ⟨p', c', rfl, hin, hb⟩
theorem refOpen_284 (p : Option Addr) (c : Nat) (P : List Nat) (hP : IsP P) (hs : stateL P = 0) (w : World) (hx : In w p 288 c P) :
    Calls Try.prog 62 #[.slice p 288 c] w fun e w' => ∃ b o c', e = .returned (.tuple #[.slice (some ⟨b, o, none⟩) 284 c', .int .i64 0]) ∧ In w' (some ⟨b, o, none⟩) 284 c' (P.take 284) ∧ Below w.heap.size w w' := by
  refine (refOpen_any p 288 c P w hx).mono ?_
  rintro e w1 ⟨p', n', c', rfl, hin, hb⟩
  rw [show openL P = P.take 284 from by unfold openL; rw [if_pos hs, hP.1]] at hin
  have e3 : n' = 284 := by rw [← hin.len, List.length_take, hP.1]; rfl
  subst e3
  rw [hs]
  obtain ⟨b, o, rfl, _, _⟩ := hin.at' (by decide)
  exact ⟨b, o, c', rfl, hin, hb⟩
theorem take_x28 (P : List Nat) : (P.take 284).drop 256 = x28 P := by
  unfold x28; rw [List.drop_take]
end Go.Proofs.Ytfgelncfmopibaa.Pg

namespace Go.Proofs.Ytfgelncfmopibaa.Pg
open Go.RowKit
/-- Bytes don't lie where a header lies. -/
theorem in_not_hdr {w : World} {b o c g : Nat} {t : TypeId} {xs : List Nat} (h : In w (some ⟨b, o, none⟩) 284 c xs) (hb : Blk w g t [.int .i64 0, .int .i64 0, .int .i64 0, .int .i64 0]) : b ≠ g := by
  intro e
  subst e
  obtain ⟨b', o', hp, _, hc⟩ := h.at' (by decide)
  cases hp
  have h0 := hc 0 (by decide)
  rw [Nat.add_zero, hb.cell o] at h0
  match o, h0 with
  | 0, h0 => simp at h0
  | 1, h0 => simp at h0
  | 2, h0 => simp at h0
  | 3, h0 => simp at h0
  | o + 4, h0 => simp at h0
set_option maxRecDepth 100000 in
set_option maxHeartbeats 2000000 in
theorem qdecode_bad (P : List Nat) (hP : IsP P) (w : World) (hs : stateL P ≠ 0) :
    Calls Try.prog 34 #[.agg (vals P).toArray] w fun e w' => e = .returned (.tuple #[.agg #[.int .i64 0, .int .i64 0, .int .i64 0, .int .i64 0], .slice none 0 0, .int .i64 (stateL P)]) ∧ Below w.heap.size w w' := by
  have b0 := (Blk.new w 74 (vals P)).alloc (.cells #[.int .i64 0, .int .i64 0, .int .i64 0, .int .i64 0] 31)
  have b1 := Blk.new' (w.alloc (.cells (vals P).toArray 74)) 31 #[.int .i64 0, .int .i64 0, .int .i64 0, .int .i64 0]
  rw [World.size_alloc] at b1
  have hbel : Below w.heap.size w ((w.alloc (.cells (vals P).toArray 74)).alloc (.cells #[.int .i64 0, .int .i64 0, .int .i64 0, .int .i64 0] 31)) := (below_alloc w _).alloc (by simp) _
  obtain ⟨st, hst⟩ : ∃ st, stateL P = st := ⟨_, rfl⟩
  have HS : Hid (stateL P = st) := hst
  rw [hst] at hs
  have hb : (st != 0) = true := by rw [bne_iff_ne]; exact hs
  clear hst hs
  go_enter Try.func34, Try.ntmps34
  go_wp2_with (first
    | (refine wpList_load_mid rfl 74 _ rfl w.heap.size 0 rfl (vals P) _ (b0.page hP.1) Try.underlying74 rfl (sizeP hP.1) ?_)
    | (go_at_call 63; refine (qbytes_any P hP _).mono ?_; rintro e w1 ⟨p1, c1, rfl, hin1, hb1⟩; have hB1 := bt hbel hb1; have b2 := b1.kept hb1)
    | (go_at_call 62; refine (refOpen_any p1 288 c1 P _ hin1).mono ?_; rintro e w2 ⟨p2, n2, c2, rfl, hin2, hb2⟩; rw [HS.out]; have hB2 := bt hB1 hb2; have b3 := b2.kept hb2)
    | (refine wpList_store_blk rfl 31 _ _ rfl _ _ [.int .i64 0, .int .i64 0, .int .i64 0, .int .i64 0] rfl rfl b3 (by simp) hdr_size hdr_one ?_; intro w5 h5 ht5))
  refine ret_hdr3 Try.results34 rfl h5 rfl ⟨?_, ht5.below hB2 (by omega)⟩
  rw [HS.out]
  rfl
set_option linter.unusedSimpArgs false in
set_option maxRecDepth 100000 in
set_option maxHeartbeats 4000000 in
theorem qdecode_good (P : List Nat) (hP : IsP P) (w : World) (hs : stateL P = 0) :
    Calls Try.prog 34 #[.agg (vals P).toArray] w fun e w' => ((decOk P = false ∧ e = .returned (.tuple #[.agg #[.int .i64 0, .int .i64 0, .int .i64 0, .int .i64 0], .slice none 0 0, .int .i64 30])) ∨
      (decOk P = true ∧ ∃ p c, e = .returned (.tuple #[.agg #[.int .i64 (hv0 P), .int .i64 (hv1 P), .int .i64 (hv2 P), .int .i64 (hv3 P)], .slice p 256 c, .int .i64 0]) ∧ In w' p 256 c (P.take 256))) ∧ Below w.heap.size w w' := by
  have b0 := (Blk.new w 74 (vals P)).alloc (.cells #[.int .i64 0, .int .i64 0, .int .i64 0, .int .i64 0] 31)
  have b1 := Blk.new' (w.alloc (.cells (vals P).toArray 74)) 31 #[.int .i64 0, .int .i64 0, .int .i64 0, .int .i64 0]
  rw [World.size_alloc] at b1
  have hbel : Below w.heap.size w ((w.alloc (.cells (vals P).toArray 74)).alloc (.cells #[.int .i64 0, .int .i64 0, .int .i64 0, .int .i64 0] 31)) := (below_alloc w _).alloc (by simp) _
  have HDI : Hid (decOk P = (chkB (hv0 P) (hv1 P) (hv2 P) (hv3 P) && headL (hv0 P) (hv1 P) (hv2 P) (hv3 P) == x28 P)) := dec_iff hP hs
  have HSM : Hid (chkB (hv0 P) (hv1 P) (hv2 P) (hv3 P) = true → (fld P 3 : Int) ≤ 1152921504606846976 ∧ (fld P 4 : Int) ≤ 1152921504606846976) := chk_small
  have HV : Hid (hv0 P = IntKind.i64.wrap (fld P 0) ∧ hv1 P = IntKind.i64.wrap (fld P 2) ∧ hv2 P = IntKind.i64.wrap (fld P 3) ∧ hv3 P = IntKind.i64.wrap (fld P 4)) := ⟨rfl, rfl, rfl, rfl⟩
  have HXB : Hid (∀ x ∈ x28 P, x < 256) := x28_byte hP
  have HTX : Hid ((P.take 284).drop 256 = x28 P) := take_x28 P
  have HT2 : Hid ((P.take 284).take 256 = P.take 256) := by show _ = _; rw [List.take_take]; rfl
  have HF : Hid (∀ i, i < 5 → (valsTo ws5 ((x28 P).take 22) 5).getD i 0 = fld P i) := fun i hi => fld5 P hP i hi
  have hop := fun p c w h => refOpen_284 p c P hP hs w h
  have HOP : Hid (∀ p c w, In w p 288 c P → Calls Try.prog 62 #[.slice p 288 c] w fun e w' => ∃ b o c', e = .returned (.tuple #[.slice (some ⟨b, o, none⟩) 284 c', .int .i64 0]) ∧ In w' (some ⟨b, o, none⟩) 284 c' (P.take 284) ∧ Below w.heap.size w w') := hop
  clear hop hs
  go_enter Try.func34, Try.ntmps34
  go_wp2_with (first
    | (refine wpList_load_mid rfl 74 _ rfl w.heap.size 0 rfl (vals P) _ (b0.page hP.1) Try.underlying74 rfl (sizeP hP.1) ?_)
    | (go_at_call 63; refine (qbytes_any P hP _).mono ?_; rintro e w1 ⟨p1, c1, rfl, hin1, hb1⟩; have hB1 := bt hbel hb1; have b2 := b1.kept hb1)
    | (go_at_call 62; refine (HOP.out p1 c1 _ hin1).mono ?_; rintro e w2 ⟨b, o, c2, rfl, hin2, hb2⟩; have hB2 := bt hB1 hb2; have b3 := b2.kept hb2; obtain ⟨q, hsl, hin3⟩ := slice_from hin2 256 (by decide); rw [HTX.out] at hin3; have hsl1 : ∀ W, (Instr.slice 75 (.slice (some ⟨b, o, none⟩) 284 c2) (some (.int .i64 256)) none none).run Try.prog W = .ok (.slice (some ⟨b, q, none⟩) 28 (c2 - 256)) W := hsl; clear hsl; have hcap3 := hin3.cap; have hsl2 : ∀ W, (Instr.slice 75 (.slice (some ⟨b, q, none⟩) 28 (c2 - 256)) none (some (.int .i64 22)) none).run Try.prog W = .ok (.slice (some ⟨b, q, none⟩) 22 (c2 - 256)) W := slice_front (some ⟨b, q, none⟩) 28 (c2 - 256) 22 (by decide) hcap3; have hin4 := (hin3.front 22 (by decide)).below (below_alloc w2 (.cells #[.int .i64 8, .int .i64 8, .int .i64 32, .int .i64 64, .int .i64 64] 3))))
  have hI := in_litI w2 (cs := #[.int .i64 8, .int .i64 8, .int .i64 32, .int .i64 64, .int .i64 64]) (xs := ws5) (n := 5) rfl rfl (by decide)
  refine (refUnpack5 _ _ _ _ _ hI hin4).mono ?_
  rintro e w3 ⟨p3, c3, rfl, hin5, hb3⟩
  have hb23 := bt (below_alloc w2 (.cells #[.int .i64 8, .int .i64 8, .int .i64 32, .int .i64 64, .int .i64 64] 3)) hb3
  have hB3 := bt hB2 hb23
  have b4 := b3.kept hb23
  have hin6 := hin3.below hb23
  have hin7 := hin2.below hb23
  have hcap2 := hin2.cap
  obtain ⟨b5, o5, rfl, hb5, hc⟩ := hin5.at' (by decide)
  have hv : ∀ i, i < 5 → w3.cell? ⟨b5, o5 + i, none⟩ = some (.int .u64 (fld P i : Int)) := fun i hi => by rw [hc i hi]; unfold el; rw [HF.out i hi]
  have hcap := hin5.cap
  have y0 := hv 0 (by decide)
  have y2 := hv 2 (by decide)
  have y3 := hv 3 (by decide)
  have y4 := hv 4 (by decide)
  rw [Nat.add_zero] at y0
  clear hI hin2 hin3 hin4 hin5 hb3 hb23 hc hv b0 b1 b2 b3 hb1 hb2 hB1 hB2 hin1 hbel HF HOP hcap3
  obtain ⟨z0, hz0⟩ : ∃ z, (fld P 0 : Int) = z := ⟨_, rfl⟩
  rw [hz0] at y0
  obtain ⟨z2, hz2⟩ : ∃ z, (fld P 2 : Int) = z := ⟨_, rfl⟩
  rw [hz2] at y2
  obtain ⟨z3, hz3⟩ : ∃ z, (fld P 3 : Int) = z := ⟨_, rfl⟩
  rw [hz3] at y3
  obtain ⟨z4, hz4⟩ : ∃ z, (fld P 4 : Int) = z := ⟨_, rfl⟩
  rw [hz4] at y4
  obtain ⟨k0, hk0⟩ : ∃ k, hv0 P = k := ⟨_, rfl⟩
  obtain ⟨k1, hk1⟩ : ∃ k, hv1 P = k := ⟨_, rfl⟩
  obtain ⟨k2, hk2⟩ : ∃ k, hv2 P = k := ⟨_, rfl⟩
  obtain ⟨k3, hk3⟩ : ∃ k, hv3 P = k := ⟨_, rfl⟩
  have HK : Hid (IntKind.i64.wrap z0 = k0 ∧ IntKind.i64.wrap z2 = k1 ∧ IntKind.i64.wrap z3 = k2 ∧ IntKind.i64.wrap z4 = k3) := by have := HV.out; rw [hz0, hz2, hz3, hz4, hk0, hk1, hk2, hk3] at this; exact ⟨this.1.symm, this.2.1.symm, this.2.2.1.symm, this.2.2.2.symm⟩
  have HDI2 : Hid (decOk P = (chkB k0 k1 k2 k3 && headL k0 k1 k2 k3 == x28 P)) := by have := HDI.out; rw [hk0, hk1, hk2, hk3] at this; exact this
  have HSM2 : Hid (chkB k0 k1 k2 k3 = true → z3 ≤ 1152921504606846976 ∧ z4 ≤ 1152921504606846976) := by have := HSM.out; rw [hk0, hk1, hk2, hk3, hz3, hz4] at this; exact this
  have HPK : Hid (hv0 P = k0 ∧ hv1 P = k1 ∧ hv2 P = k2 ∧ hv3 P = k3) := ⟨hk0, hk1, hk2, hk3⟩
  clear HV HDI HSM hz0 hz2 hz3 hz4 hk0 hk1 hk2 hk3
  by_cases h3 : 1152921504606846976 < z3
  · have hd3 : decide ((1152921504606846976 : Int) < z3) = true := by simpa using h3
    have HFA : Hid (decOk P = false) := by
      show _ = _
      rw [HDI2.out]
      cases hc : chkB k0 k1 k2 k3 with
      | false => rfl
      | true => have := (HSM2.out hc).1; omega
    clear h3
    go_wp2_with (refine wpList_store_blk rfl 31 (.tmp 2) (.tmp 40) rfl _ _ [.int .i64 0, .int .i64 0, .int .i64 0, .int .i64 0] rfl rfl b4 (by simp) hdr_size hdr_one ?_; intro w10 h10 ht10)
    exact ret_hdr3 Try.results34 rfl h10 rfl ⟨.inl ⟨HFA.out, rfl⟩, ht10.below hB3 (by omega)⟩
  by_cases h4 : 1152921504606846976 < z4
  · have hd3 : decide ((1152921504606846976 : Int) < z3) = false := by simpa using h3
    have hd4 : decide ((1152921504606846976 : Int) < z4) = true := by simpa using h4
    have HFA : Hid (decOk P = false) := by
      show _ = _
      rw [HDI2.out]
      cases hc : chkB k0 k1 k2 k3 with
      | false => rfl
      | true => have := (HSM2.out hc).2; omega
    clear h3 h4
    go_wp2_with (refine wpList_store_blk rfl 31 (.tmp 2) (.tmp 40) rfl _ _ [.int .i64 0, .int .i64 0, .int .i64 0, .int .i64 0] rfl rfl b4 (by simp) hdr_size hdr_one ?_; intro w10 h10 ht10)
    exact ret_hdr3 Try.results34 rfl h10 rfl ⟨.inl ⟨HFA.out, rfl⟩, ht10.below hB3 (by omega)⟩
  have hd3 : decide ((1152921504606846976 : Int) < z3) = false := by simpa using h3
  have hd4 : decide ((1152921504606846976 : Int) < z4) = false := by simpa using h4
  clear h3 h4
  go_wp2
  go_region_held3 (fun w' => w'.cell? ⟨b5, o5, none⟩ = some (.int .u64 z0) ∧ w'.cell? ⟨b5, o5 + 2, none⟩ = some (.int .u64 z2) ∧ w'.cell? ⟨b5, o5 + 3, none⟩ = some (.int .u64 z3) ∧ w'.cell? ⟨b5, o5 + 4, none⟩ = some (.int .u64 z4)) (go_keep) (fail)
  clear y0 y2 y3 y4
  rename_i hHeld
  clear hHeld
  rw [HK.out.1, HK.out.2.1, HK.out.2.2.1, HK.out.2.2.2]
  have c0 := (b4.alloc (.cells #[.int .i64 k0, .int .i64 k1, .int .i64 k2, .int .i64 k3] 31)).drew
  have c1 := (Blk.new' w3 31 #[.int .i64 k0, .int .i64 k1, .int .i64 k2, .int .i64 k3]).drew
  have hin8 := hin6.below ((Below.refl w3.heap.size w3).alloc (Nat.le_refl _) (.cells #[.int .i64 k0, .int .i64 k1, .int .i64 k2, .int .i64 k3] 31)).drew
  have hin9 := hin7.below ((Below.refl w3.heap.size w3).alloc (Nat.le_refl _) (.cells #[.int .i64 k0, .int .i64 k1, .int .i64 k2, .int .i64 k3] 31)).drew
  have hB4 := (hB3.alloc hB3.size (.cells #[.int .i64 k0, .int .i64 k1, .int .i64 k2, .int .i64 k3] 31)).drew
  have hl4 := b4.lt
  clear b4 hin6 hin7
  generalize ((w3.alloc (.cells #[.int .i64 k0, .int .i64 k1, .int .i64 k2, .int .i64 k3] 31)).drew) = W at *
  generalize w3.heap.size = G1 at *
  have hsl3 : ∀ W, (Instr.slice 75 (.slice (some ⟨b, o, none⟩) 284 c2) none (some (.int .i64 256)) none).run Try.prog W = .ok (.slice (some ⟨b, o, none⟩) 256 c2) W := slice_front (some ⟨b, o, none⟩) 284 c2 256 (by decide) hcap2
  cases hc : chkB k0 k1 k2 k3 with
  | false =>
    have HFA : Hid (decOk P = false) := by show _ = _; rw [HDI2.out, hc]; rfl
    have HCE : Hid (chkE k0 k1 k2 k3 = 30) := by show _ = _; unfold chkE; rw [hc]; rfl
    clear hc
    go_wp2_with fail
    refine wp_region_noPanic ?_
    refine wp_region_held_drew (S := fun w' => Blk w' G1 31 [.int .i64 k0, .int .i64 k1, .int .i64 k2, .int .i64 k3] ∧ In w' (some ⟨b, q, none⟩) 28 (c2 - 256) (x28 P)) (by kernel_rfl) ⟨c1.drew, hin8.below ((Below.refl _ _).drew)⟩ (fun hHeld => ?_)
    refine wpAnyH_take (i := 0) (v := .agg ([.int .i64 k0, .int .i64 k1, .int .i64 k2, .int .i64 k3]).toArray) rfl (by kernel_rfl) (by kernel_rfl) (by kernel_rfl) (fun _ _ _ h => h) (yieldsIf_load_mid (by rfl) _ _ rfl (G1) 0 rfl ([.int .i64 k0, .int .i64 k1, .int .i64 k2, .int .i64 k3]) _ (fun w hSw => hSw.1.range 0 4 _ rfl) Try.underlying31 rfl hdr_size) hHeld ?_
    try simp only [Act.put, List.getElem_toArray, List.getElem_cons_succ, List.getElem_cons_zero, List.setIfInBounds_toArray, List.set_cons_zero, List.set_cons_succ]
    refine wpAnyH_ready (rs := [1]) (by kernel_rfl) (by simp) ?_
    refine AllReadyH.cons rfl (fun K hK => ?_) AllReadyH.nil
    go_simp
    refine (qcheck_any k0 k1 k2 k3 _).mono ?_
    rintro e w6 ⟨rfl, g1⟩
    rw [HCE.out]
    try go_wp2_with fail
    refine hK.out _ _ ⟨hHeld.1.kept g1, hHeld.2.below g1⟩ (fun hHeld => ?_)
    clear hK K
    try simp only [Act.put, List.getElem_toArray, List.getElem_cons_succ, List.getElem_cons_zero, List.setIfInBounds_toArray, List.set_cons_zero, List.set_cons_succ]
    refine wpAnyH_take (i := 2) (v := ?_) rfl (by kernel_rfl) (by kernel_rfl) (by kernel_rfl) (fun _ _ _ h => h) (Or.inl ⟨by rfl, ?_⟩) hHeld ?_
    rotate_left
    · intro w hSw; try dsimp only at hSw
      go_simp; try (with_reducible rfl)
    try simp only [Act.put, List.getElem_toArray, List.getElem_cons_succ, List.getElem_cons_zero, List.setIfInBounds_toArray, List.set_cons_zero, List.set_cons_succ]
    refine wpAnyH_take (i := 3) (v := ?_) rfl (by kernel_rfl) (by kernel_rfl) (by kernel_rfl) (fun _ _ _ h => h) (Or.inl ⟨by rfl, ?_⟩) hHeld ?_
    rotate_left
    · intro w hSw; try dsimp only at hSw
      go_simp; try (with_reducible rfl)
    try simp only [Act.put, List.getElem_toArray, List.getElem_cons_succ, List.getElem_cons_zero, List.setIfInBounds_toArray, List.set_cons_zero, List.set_cons_succ]
    refine wpAnyH_take (i := 4) (v := undef) rfl (by kernel_rfl) (by kernel_rfl) (by kernel_rfl) (fun _ _ _ h => h) (Or.inr ⟨by rfl, rfl⟩) hHeld ?_
    try simp only [Act.put, List.getElem_toArray, List.getElem_cons_succ, List.getElem_cons_zero, List.setIfInBounds_toArray, List.set_cons_zero, List.set_cons_succ]
    refine wpAnyH_take (i := 5) (v := undef) rfl (by kernel_rfl) (by kernel_rfl) (by kernel_rfl) (fun _ _ _ h => h) (Or.inr ⟨by rfl, rfl⟩) hHeld ?_
    try simp only [Act.put, List.getElem_toArray, List.getElem_cons_succ, List.getElem_cons_zero, List.setIfInBounds_toArray, List.set_cons_zero, List.set_cons_succ]
    refine wpAnyH_take (i := 6) (v := undef) rfl (by kernel_rfl) (by kernel_rfl) (by kernel_rfl) (fun _ _ _ h => h) (Or.inr ⟨by rfl, rfl⟩) hHeld ?_
    try simp only [Act.put, List.getElem_toArray, List.getElem_cons_succ, List.getElem_cons_zero, List.setIfInBounds_toArray, List.set_cons_zero, List.set_cons_succ]
    refine wpAnyH_take (i := 7) (v := undef) rfl (by kernel_rfl) (by kernel_rfl) (by kernel_rfl) (fun _ _ _ h => h) (Or.inr ⟨by rfl, rfl⟩) hHeld ?_
    try simp only [Act.put, List.getElem_toArray, List.getElem_cons_succ, List.getElem_cons_zero, List.setIfInBounds_toArray, List.set_cons_zero, List.set_cons_succ]
    refine wpAnyH_take (i := 8) (v := undef) rfl (by kernel_rfl) (by kernel_rfl) (by kernel_rfl) (fun _ _ _ h => h) (Or.inr ⟨by rfl, rfl⟩) hHeld ?_
    try simp only [Act.put, List.getElem_toArray, List.getElem_cons_succ, List.getElem_cons_zero, List.setIfInBounds_toArray, List.set_cons_zero, List.set_cons_succ]
    refine wpAnyH_take (i := 9) (v := undef) rfl (by kernel_rfl) (by kernel_rfl) (by kernel_rfl) (fun _ _ _ h => h) (Or.inr ⟨by rfl, rfl⟩) hHeld ?_
    try simp only [Act.put, List.getElem_toArray, List.getElem_cons_succ, List.getElem_cons_zero, List.setIfInBounds_toArray, List.set_cons_zero, List.set_cons_succ]
    refine wpAnyH_take (i := 10) (v := ?_) rfl (by kernel_rfl) (by kernel_rfl) (by kernel_rfl) (fun _ _ _ h => h) (Or.inl ⟨by rfl, ?_⟩) hHeld ?_
    rotate_left
    · intro w hSw; try dsimp only at hSw
      go_simp; try (with_reducible rfl)
    try simp only [Act.put, List.getElem_toArray, List.getElem_cons_succ, List.getElem_cons_zero, List.setIfInBounds_toArray, List.set_cons_zero, List.set_cons_succ]
    refine wpAnyH_done (by kernel_rfl) ?_ _
    refine NoPanic.normal ?_
    have q1 := (Below.refl W.heap.size W).drew
    have q2 := q1.trans (g1.mono q1.size)
    have e0 := c0.kept q2
    have e1 := c1.kept q2
    have hin10 := hin9.below q2
    have hB5 := bt hB4 q2
    clear hHeld c0 c1 hin8 hin9 hB4
    go_wp2_with (refine wpList_store_blk rfl 31 (.tmp 2) (.tmp 69) rfl _ _ [.int .i64 0, .int .i64 0, .int .i64 0, .int .i64 0] rfl rfl e0 (by simp) hdr_size hdr_one ?_; intro w10 h10 ht10)
    exact ret_hdr3 Try.results34 rfl h10 rfl ⟨.inl ⟨HFA.out, rfl⟩, ht10.below hB5 (by omega)⟩
  | true =>
    have HCE : Hid (chkE k0 k1 k2 k3 = 0) := by show _ = _; unfold chkE; rw [hc]; rfl
    have HCB : Hid (chkB k0 k1 k2 k3 = true) := hc
    have hse := str_eq (headL_byte hc) HXB.out
    clear hc
    cases hx : (headL k0 k1 k2 k3 == x28 P) with
    | false =>
      have HFA : Hid (decOk P = false) := by show _ = _; rw [HDI2.out, HCB.out, hx]; rfl
      rw [hx] at hse
      clear hx
      go_wp2_with fail
      refine wp_region_noPanic ?_
      refine wp_region_held_drew (S := fun w' => Blk w' G1 31 [.int .i64 k0, .int .i64 k1, .int .i64 k2, .int .i64 k3] ∧ In w' (some ⟨b, q, none⟩) 28 (c2 - 256) (x28 P)) (by kernel_rfl) ⟨c1.drew, hin8.below ((Below.refl _ _).drew)⟩ (fun hHeld => ?_)
      refine wpAnyH_take (i := 0) (v := .agg ([.int .i64 k0, .int .i64 k1, .int .i64 k2, .int .i64 k3]).toArray) rfl (by kernel_rfl) (by kernel_rfl) (by kernel_rfl) (fun _ _ _ h => h) (yieldsIf_load_mid (by rfl) _ _ rfl (G1) 0 rfl ([.int .i64 k0, .int .i64 k1, .int .i64 k2, .int .i64 k3]) _ (fun w hSw => hSw.1.range 0 4 _ rfl) Try.underlying31 rfl hdr_size) hHeld ?_
      try simp only [Act.put, List.getElem_toArray, List.getElem_cons_succ, List.getElem_cons_zero, List.setIfInBounds_toArray, List.set_cons_zero, List.set_cons_succ]
      refine wpAnyH_ready (rs := [1]) (by kernel_rfl) (by simp) ?_
      refine AllReadyH.cons rfl (fun K hK => ?_) AllReadyH.nil
      go_simp
      refine (qcheck_any k0 k1 k2 k3 _).mono ?_
      rintro e w6 ⟨rfl, g1⟩
      rw [HCE.out]
      try go_wp2_with fail
      refine hK.out _ _ ⟨hHeld.1.kept g1, hHeld.2.below g1⟩ (fun hHeld => ?_)
      clear hK K
      try simp only [Act.put, List.getElem_toArray, List.getElem_cons_succ, List.getElem_cons_zero, List.setIfInBounds_toArray, List.set_cons_zero, List.set_cons_succ]
      refine wpAnyH_take (i := 2) (v := ?_) rfl (by kernel_rfl) (by kernel_rfl) (by kernel_rfl) (fun _ _ _ h => h) (Or.inl ⟨by rfl, ?_⟩) hHeld ?_
      rotate_left
      · intro w hSw; try dsimp only at hSw
        go_simp; try (with_reducible rfl)
      try simp only [Act.put, List.getElem_toArray, List.getElem_cons_succ, List.getElem_cons_zero, List.setIfInBounds_toArray, List.set_cons_zero, List.set_cons_succ]
      refine wpAnyH_take (i := 3) (v := ?_) rfl (by kernel_rfl) (by kernel_rfl) (by kernel_rfl) (fun _ _ _ h => h) (Or.inl ⟨by rfl, ?_⟩) hHeld ?_
      rotate_left
      · intro w hSw; try dsimp only at hSw
        go_simp; try (with_reducible rfl)
      try simp only [Act.put, List.getElem_toArray, List.getElem_cons_succ, List.getElem_cons_zero, List.setIfInBounds_toArray, List.set_cons_zero, List.set_cons_succ]
      refine wpAnyH_take (i := 4) (v := .agg ([.int .i64 k0, .int .i64 k1, .int .i64 k2, .int .i64 k3]).toArray) rfl (by kernel_rfl) (by kernel_rfl) (by kernel_rfl) (fun _ _ _ h => h) (yieldsIf_load_mid (by rfl) _ _ rfl (G1) 0 rfl ([.int .i64 k0, .int .i64 k1, .int .i64 k2, .int .i64 k3]) _ (fun w hSw => hSw.1.range 0 4 _ rfl) Try.underlying31 rfl hdr_size) hHeld ?_
      try simp only [Act.put, List.getElem_toArray, List.getElem_cons_succ, List.getElem_cons_zero, List.setIfInBounds_toArray, List.set_cons_zero, List.set_cons_succ]
      refine wpAnyH_take (i := 7) (v := ?_) rfl (by kernel_rfl) (by kernel_rfl) (by kernel_rfl) (fun _ _ _ h => h) (Or.inl ⟨by rfl, ?_⟩) hHeld ?_
      rotate_left
      · intro w hSw; try dsimp only at hSw
        go_simp; try (with_reducible rfl)
      try simp only [Act.put, List.getElem_toArray, List.getElem_cons_succ, List.getElem_cons_zero, List.setIfInBounds_toArray, List.set_cons_zero, List.set_cons_succ]
      refine wpAnyH_take (i := 8) (v := ?_) rfl (by kernel_rfl) (by kernel_rfl) (by kernel_rfl) (fun _ _ _ h => h) (Or.inl ⟨by rfl, ?_⟩) hHeld ?_
      rotate_left
      · intro w hSw; try dsimp only at hSw
        have hcx := conv_in hSw.2
        go_simp; try (with_reducible rfl)
      try simp only [Act.put, List.getElem_toArray, List.getElem_cons_succ, List.getElem_cons_zero, List.setIfInBounds_toArray, List.set_cons_zero, List.set_cons_succ]
      refine wpAnyH_ready (rs := [5]) (by kernel_rfl) (by simp) ?_
      refine AllReadyH.cons rfl (fun K hK => ?_) AllReadyH.nil
      go_simp
      refine (qheader_any k0 k1 k2 k3 _ HCB.out).mono ?_
      rintro e w7 ⟨p7, c7, rfl, hin11, g2⟩
      try go_wp2_with fail
      refine hK.out _ _ ⟨hHeld.1.kept g2, hHeld.2.below g2⟩ (fun hHeld => ?_)
      clear hK K
      try simp only [Act.put, List.getElem_toArray, List.getElem_cons_succ, List.getElem_cons_zero, List.setIfInBounds_toArray, List.set_cons_zero, List.set_cons_succ]
      have hcv := conv_in hin11
      refine wpAnyH_ready (rs := [6]) (by kernel_rfl) (by simp) ?_
      refine AllReadyH.cons rfl (fun K hK => ?_) AllReadyH.nil
      go_simp
      refine hK.out _ _ hHeld (fun hHeld => ?_)
      clear hK K
      try simp only [Act.put, List.getElem_toArray, List.getElem_cons_succ, List.getElem_cons_zero, List.setIfInBounds_toArray, List.set_cons_zero, List.set_cons_succ]
      refine wpAnyH_take (i := 9) (v := ?_) rfl (by kernel_rfl) (by kernel_rfl) (by kernel_rfl) (fun _ _ _ h => h) (Or.inl ⟨by rfl, ?_⟩) hHeld ?_
      rotate_left
      · intro w hSw; try dsimp only at hSw
        go_simp; try (with_reducible rfl)
      try simp only [Act.put, List.getElem_toArray, List.getElem_cons_succ, List.getElem_cons_zero, List.setIfInBounds_toArray, List.set_cons_zero, List.set_cons_succ]
      refine wpAnyH_take (i := 10) (v := ?_) rfl (by kernel_rfl) (by kernel_rfl) (by kernel_rfl) (fun _ _ _ h => h) (Or.inl ⟨by rfl, ?_⟩) hHeld ?_
      rotate_left
      · intro w hSw; try dsimp only at hSw
        go_simp; try (with_reducible rfl)
      try simp only [Act.put, List.getElem_toArray, List.getElem_cons_succ, List.getElem_cons_zero, List.setIfInBounds_toArray, List.set_cons_zero, List.set_cons_succ]
      refine wpAnyH_done (by kernel_rfl) ?_ _
      refine NoPanic.normal ?_
      have q1 := (Below.refl W.heap.size W).drew
      have q2 := q1.trans (g1.mono q1.size)
      have q3 := q2.trans (g2.mono q2.size)
      have e0 := c0.kept q3
      have e1 := c1.kept q3
      have hin10 := hin9.below q3
      have hB5 := bt hB4 q3
      clear hHeld c0 c1 hin8 hin9 hB4
      go_wp2_with (refine wpList_store_blk rfl 31 (.tmp 2) (.tmp 69) rfl _ _ [.int .i64 0, .int .i64 0, .int .i64 0, .int .i64 0] rfl rfl e0 (by simp) hdr_size hdr_one ?_; intro w10 h10 ht10)
      exact ret_hdr3 Try.results34 rfl h10 rfl ⟨.inl ⟨HFA.out, rfl⟩, ht10.below hB5 (by omega)⟩
    | true =>
      have HTA : Hid (decOk P = true) := by show _ = _; rw [HDI2.out, HCB.out, hx]; rfl
      rw [hx] at hse
      clear hx
      go_wp2_with fail
      refine wp_region_noPanic ?_
      refine wp_region_held_drew (S := fun w' => Blk w' G1 31 [.int .i64 k0, .int .i64 k1, .int .i64 k2, .int .i64 k3] ∧ In w' (some ⟨b, q, none⟩) 28 (c2 - 256) (x28 P)) (by kernel_rfl) ⟨c1.drew, hin8.below ((Below.refl _ _).drew)⟩ (fun hHeld => ?_)
      refine wpAnyH_take (i := 0) (v := .agg ([.int .i64 k0, .int .i64 k1, .int .i64 k2, .int .i64 k3]).toArray) rfl (by kernel_rfl) (by kernel_rfl) (by kernel_rfl) (fun _ _ _ h => h) (yieldsIf_load_mid (by rfl) _ _ rfl (G1) 0 rfl ([.int .i64 k0, .int .i64 k1, .int .i64 k2, .int .i64 k3]) _ (fun w hSw => hSw.1.range 0 4 _ rfl) Try.underlying31 rfl hdr_size) hHeld ?_
      try simp only [Act.put, List.getElem_toArray, List.getElem_cons_succ, List.getElem_cons_zero, List.setIfInBounds_toArray, List.set_cons_zero, List.set_cons_succ]
      refine wpAnyH_ready (rs := [1]) (by kernel_rfl) (by simp) ?_
      refine AllReadyH.cons rfl (fun K hK => ?_) AllReadyH.nil
      go_simp
      refine (qcheck_any k0 k1 k2 k3 _).mono ?_
      rintro e w6 ⟨rfl, g1⟩
      rw [HCE.out]
      try go_wp2_with fail
      refine hK.out _ _ ⟨hHeld.1.kept g1, hHeld.2.below g1⟩ (fun hHeld => ?_)
      clear hK K
      try simp only [Act.put, List.getElem_toArray, List.getElem_cons_succ, List.getElem_cons_zero, List.setIfInBounds_toArray, List.set_cons_zero, List.set_cons_succ]
      refine wpAnyH_take (i := 2) (v := ?_) rfl (by kernel_rfl) (by kernel_rfl) (by kernel_rfl) (fun _ _ _ h => h) (Or.inl ⟨by rfl, ?_⟩) hHeld ?_
      rotate_left
      · intro w hSw; try dsimp only at hSw
        go_simp; try (with_reducible rfl)
      try simp only [Act.put, List.getElem_toArray, List.getElem_cons_succ, List.getElem_cons_zero, List.setIfInBounds_toArray, List.set_cons_zero, List.set_cons_succ]
      refine wpAnyH_take (i := 3) (v := ?_) rfl (by kernel_rfl) (by kernel_rfl) (by kernel_rfl) (fun _ _ _ h => h) (Or.inl ⟨by rfl, ?_⟩) hHeld ?_
      rotate_left
      · intro w hSw; try dsimp only at hSw
        go_simp; try (with_reducible rfl)
      try simp only [Act.put, List.getElem_toArray, List.getElem_cons_succ, List.getElem_cons_zero, List.setIfInBounds_toArray, List.set_cons_zero, List.set_cons_succ]
      refine wpAnyH_take (i := 4) (v := .agg ([.int .i64 k0, .int .i64 k1, .int .i64 k2, .int .i64 k3]).toArray) rfl (by kernel_rfl) (by kernel_rfl) (by kernel_rfl) (fun _ _ _ h => h) (yieldsIf_load_mid (by rfl) _ _ rfl (G1) 0 rfl ([.int .i64 k0, .int .i64 k1, .int .i64 k2, .int .i64 k3]) _ (fun w hSw => hSw.1.range 0 4 _ rfl) Try.underlying31 rfl hdr_size) hHeld ?_
      try simp only [Act.put, List.getElem_toArray, List.getElem_cons_succ, List.getElem_cons_zero, List.setIfInBounds_toArray, List.set_cons_zero, List.set_cons_succ]
      refine wpAnyH_take (i := 7) (v := ?_) rfl (by kernel_rfl) (by kernel_rfl) (by kernel_rfl) (fun _ _ _ h => h) (Or.inl ⟨by rfl, ?_⟩) hHeld ?_
      rotate_left
      · intro w hSw; try dsimp only at hSw
        go_simp; try (with_reducible rfl)
      try simp only [Act.put, List.getElem_toArray, List.getElem_cons_succ, List.getElem_cons_zero, List.setIfInBounds_toArray, List.set_cons_zero, List.set_cons_succ]
      refine wpAnyH_take (i := 8) (v := ?_) rfl (by kernel_rfl) (by kernel_rfl) (by kernel_rfl) (fun _ _ _ h => h) (Or.inl ⟨by rfl, ?_⟩) hHeld ?_
      rotate_left
      · intro w hSw; try dsimp only at hSw
        have hcx := conv_in hSw.2
        go_simp; try (with_reducible rfl)
      try simp only [Act.put, List.getElem_toArray, List.getElem_cons_succ, List.getElem_cons_zero, List.setIfInBounds_toArray, List.set_cons_zero, List.set_cons_succ]
      refine wpAnyH_ready (rs := [5]) (by kernel_rfl) (by simp) ?_
      refine AllReadyH.cons rfl (fun K hK => ?_) AllReadyH.nil
      go_simp
      refine (qheader_any k0 k1 k2 k3 _ HCB.out).mono ?_
      rintro e w7 ⟨p7, c7, rfl, hin11, g2⟩
      try go_wp2_with fail
      refine hK.out _ _ ⟨hHeld.1.kept g2, hHeld.2.below g2⟩ (fun hHeld => ?_)
      clear hK K
      try simp only [Act.put, List.getElem_toArray, List.getElem_cons_succ, List.getElem_cons_zero, List.setIfInBounds_toArray, List.set_cons_zero, List.set_cons_succ]
      have hcv := conv_in hin11
      refine wpAnyH_ready (rs := [6]) (by kernel_rfl) (by simp) ?_
      refine AllReadyH.cons rfl (fun K hK => ?_) AllReadyH.nil
      go_simp
      refine hK.out _ _ hHeld (fun hHeld => ?_)
      clear hK K
      try simp only [Act.put, List.getElem_toArray, List.getElem_cons_succ, List.getElem_cons_zero, List.setIfInBounds_toArray, List.set_cons_zero, List.set_cons_succ]
      refine wpAnyH_take (i := 9) (v := ?_) rfl (by kernel_rfl) (by kernel_rfl) (by kernel_rfl) (fun _ _ _ h => h) (Or.inl ⟨by rfl, ?_⟩) hHeld ?_
      rotate_left
      · intro w hSw; try dsimp only at hSw
        go_simp; try (with_reducible rfl)
      try simp only [Act.put, List.getElem_toArray, List.getElem_cons_succ, List.getElem_cons_zero, List.setIfInBounds_toArray, List.set_cons_zero, List.set_cons_succ]
      refine wpAnyH_take (i := 10) (v := ?_) rfl (by kernel_rfl) (by kernel_rfl) (by kernel_rfl) (fun _ _ _ h => h) (Or.inl ⟨by rfl, ?_⟩) hHeld ?_
      rotate_left
      · intro w hSw; try dsimp only at hSw
        go_simp; try (with_reducible rfl)
      try simp only [Act.put, List.getElem_toArray, List.getElem_cons_succ, List.getElem_cons_zero, List.setIfInBounds_toArray, List.set_cons_zero, List.set_cons_succ]
      refine wpAnyH_done (by kernel_rfl) ?_ _
      refine NoPanic.normal ?_
      have q1 := (Below.refl W.heap.size W).drew
      have q2 := q1.trans (g1.mono q1.size)
      have q3 := q2.trans (g2.mono q2.size)
      have e0 := c0.kept q3
      have e1 := c1.kept q3
      have hin10 := hin9.below q3
      have hB5 := bt hB4 q3
      clear hHeld c0 c1 hin8 hin9 hB4
      go_wp2_with fail
      refine wp_region_noPanic ?_
      refine wp_region_held_drew (S := fun w' => Blk w' G1 31 [.int .i64 k0, .int .i64 k1, .int .i64 k2, .int .i64 k3]) (by kernel_rfl) e1.drew (fun hHeld => ?_)
      refine wpAnyH_take (i := 0) (v := .agg ([.int .i64 k0, .int .i64 k1, .int .i64 k2, .int .i64 k3]).toArray) rfl (by kernel_rfl) (by kernel_rfl) (by kernel_rfl) (fun _ _ _ h => h) (yieldsIf_load_mid (by rfl) _ _ rfl (G1) 0 rfl ([.int .i64 k0, .int .i64 k1, .int .i64 k2, .int .i64 k3]) _ (fun w hSw => hSw.range 0 4 _ rfl) Try.underlying31 rfl hdr_size) hHeld ?_
      try simp only [Act.put, List.getElem_toArray, List.getElem_cons_succ, List.getElem_cons_zero, List.setIfInBounds_toArray, List.set_cons_zero, List.set_cons_succ]
      refine wpAnyH_take (i := 1) (v := ?_) rfl (by kernel_rfl) (by kernel_rfl) (by kernel_rfl) (fun _ _ _ h => h) (Or.inl ⟨by rfl, ?_⟩) hHeld ?_
      rotate_left
      · intro w hSw; try dsimp only at hSw
        go_simp; try (with_reducible rfl)
      try simp only [Act.put, List.getElem_toArray, List.getElem_cons_succ, List.getElem_cons_zero, List.setIfInBounds_toArray, List.set_cons_zero, List.set_cons_succ]
      refine wpAnyH_take (i := 2) (v := ?_) rfl (by kernel_rfl) (by kernel_rfl) (by kernel_rfl) (fun _ _ _ h => h) (Or.inl ⟨by rfl, ?_⟩) hHeld ?_
      rotate_left
      · intro w hSw; try dsimp only at hSw
        go_simp; try (with_reducible rfl)
      try simp only [Act.put, List.getElem_toArray, List.getElem_cons_succ, List.getElem_cons_zero, List.setIfInBounds_toArray, List.set_cons_zero, List.set_cons_succ]
      refine wpAnyH_ready (rs := [3]) (by kernel_rfl) (by simp) ?_
      refine AllReadyH.cons rfl (fun K hK => ?_) AllReadyH.nil
      rw [if_pos (by rfl)]
      refine wp_store_blk 31 (.tmp 2) (.tmp 70) rfl _ 0 [.int .i64 k0, .int .i64 k1, .int .i64 k2, .int .i64 k3] rfl rfl e0.drew (by simp) hdr_size hdr_one ?_
      intro w12 h12 ht12
      refine hK.out _ _ (e1.drew.turned ht12 (by omega)) (fun hHeld => ?_)
      clear hK K
      try simp only [Act.put, List.getElem_toArray, List.getElem_cons_succ, List.getElem_cons_zero, List.setIfInBounds_toArray, List.set_cons_zero, List.set_cons_succ]
      refine wpAnyH_take (i := 4) (v := ?_) rfl (by kernel_rfl) (by kernel_rfl) (by kernel_rfl) (fun _ _ _ h => h) (Or.inl ⟨by rfl, ?_⟩) hHeld ?_
      rotate_left
      · intro w hSw; try dsimp only at hSw
        go_simp; try (with_reducible rfl)
      try simp only [Act.put, List.getElem_toArray, List.getElem_cons_succ, List.getElem_cons_zero, List.setIfInBounds_toArray, List.set_cons_zero, List.set_cons_succ]
      refine wpAnyH_take (i := 5) (v := ?_) rfl (by kernel_rfl) (by kernel_rfl) (by kernel_rfl) (fun _ _ _ h => h) (Or.inl ⟨by rfl, ?_⟩) hHeld ?_
      rotate_left
      · intro w hSw; try dsimp only at hSw
        go_simp; try (with_reducible rfl)
      try simp only [Act.put, List.getElem_toArray, List.getElem_cons_succ, List.getElem_cons_zero, List.setIfInBounds_toArray, List.set_cons_zero, List.set_cons_succ]
      refine wpAnyH_done (by kernel_rfl) ?_ _
      refine NoPanic.normal ?_
      go_wp2
      have hin13 : In w12 (some ⟨b, o, none⟩) 256 c2 (P.take 256) := by
        have h1 := hin10.front 256 (by decide)
        rw [HT2.out] at h1
        have hne := in_not_hdr hin10 e0
        exact (h1.below ((Below.refl _ _).drew)).same (by rw [ht12.size]; exact Nat.le_refl _) (fun a h0 ha _ => ht12.block _ (by cases ha; exact hne))
      refine ret_hdr3 Try.results34 rfl h12 rfl ⟨.inr ⟨HTA.out, some ⟨b, o, none⟩, c2, ?_, hin13⟩, ht12.below hB5.drew (by omega)⟩
      rw [HPK.out.1, HPK.out.2.1, HPK.out.2.2.1, HPK.out.2.2.2]
      rfl
theorem qdecode_any (P : List Nat) (hP : IsP P) (w : World) :
    Calls Try.prog 34 #[.agg (vals P).toArray] w fun e w' => ((decE P ≠ 0 ∧ e = .returned (.tuple #[.agg #[.int .i64 0, .int .i64 0, .int .i64 0, .int .i64 0], .slice none 0 0, .int .i64 (decE P)])) ∨
      (decE P = 0 ∧ ∃ p c, e = .returned (.tuple #[.agg #[.int .i64 (hv0 P), .int .i64 (hv1 P), .int .i64 (hv2 P), .int .i64 (hv3 P)], .slice p 256 c, .int .i64 0]) ∧ In w' p 256 c (P.take 256))) ∧ Below w.heap.size w w' := by
  by_cases hs : stateL P = 0
  · refine (qdecode_good P hP w hs).mono ?_
    rintro e w' ⟨h, hb⟩
    refine ⟨?_, hb⟩
    rcases h with ⟨h1, rfl⟩ | ⟨h1, h2⟩
    · have e1 : decE P = 30 := by unfold decE; rw [if_pos hs, h1]; rfl
      exact .inl ⟨by rw [e1]; decide, by rw [e1]⟩
    · have e1 : decE P = 0 := by unfold decE; rw [if_pos hs, h1]; rfl
      exact .inr ⟨e1, h2⟩
  · refine (qdecode_bad P hP w hs).mono ?_
    rintro e w' ⟨rfl, hb⟩
    have e1 : decE P = stateL P := by unfold decE; rw [if_neg hs]
    exact ⟨.inl ⟨by rw [e1]; exact hs, by rw [e1]⟩, hb⟩
end Go.Proofs.Ytfgelncfmopibaa.Pg
