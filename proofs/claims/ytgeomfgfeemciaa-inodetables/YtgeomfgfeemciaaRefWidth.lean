/-
  What slipwayref01's Width answers.
-/
import Derived.Test.YtgeomfgfeemciaaPack
namespace Go.Proofs.Ytgeomfgfeemciaa
open Go.RowKit
theorem refWidth_any (p : Option Addr) (n c : Nat) (ws : List Int) (w : World) (hx : InI w p n c ws) :
    Calls Try.prog 50 #[.slice p n c] w fun e w' => e = .returned (.tuple #[.int .i64 (widthN ws), .int .i64 (widthE ws)]) ∧ w' = w := by
  have hroom := hx.room
  have HX : Hid (ws.length = n) := hx.len
  by_cases hl : 64 < n
  · have h1 : (64 : Int) < (n : Int) := by omega
    have e0 : widthOk ws = false := by simp only [widthOk, Bool.and_eq_false_iff, decide_eq_false_iff_not]; left; rw [HX.out]; omega
    have e1 : widthE ws = 1 := by unfold widthE; rw [e0]; rfl
    have e2 : widthN ws = 0 := by unfold widthN; rw [e0]; rfl
    rw [e1, e2]
    clear e0 e1 e2
    go_enter Try.func50, Try.ntmps50
    go_wp2
    go_ret2
    exact ⟨rfl, rfl⟩
  · have h1 : ¬ (64 : Int) < (n : Int) := by omega
    go_enter Try.func50, Try.ntmps50
    go_wp2
    go_loop [4, 5] (fun a i => ∃ k : Nat, k ≤ n ∧ i = .int .i64 k ∧ a = .int .i64 (sumW (ws.take k)) ∧ ∀ j, j < k → okW (eI ws j) = true) (fun _ i => n - (intOf i).toNat)
    case atStart => exact ⟨0, Nat.zero_le _, rfl, rfl, fun j h => by omega⟩
    case round =>
      obtain ⟨k, hk, rfl, rfl, hall⟩ := hrel
      have hb := sumW_bound ws k (by rw [HX.out]; exact hk) hall
      have HA : Hid (∀ j, j < k → okW (eI ws j) = true) := hall
      clear hall
      by_cases hlt : k < n
      · obtain ⟨b, o, rfl, hb', hc⟩ := hx.at' (by omega)
        have hck := hc k hlt
        clear hc
        by_cases hok : okW (eI ws k) = true
        · have ho := (okW_iff _).1 hok
          have HO : Hid (okW (eI ws k) = true) := hok
          have HS : Hid (sumW (ws.take (k + 1)) = sumW (ws.take k) + eI ws k) := sumW_take_succ ws k (by rw [HX.out]; exact hlt)
          clear hok
          have hd1 : ¬ eI ws k < 1 := by omega
          have hd2 : ¬ 64 < eI ws k := by omega
          go_wp2
          go_round
          case rel =>
            refine ⟨k + 1, by omega, by go_num, val_int HS.out.symm, fun j hj => ?_⟩
            rcases Nat.lt_succ_iff_lt_or_eq.1 hj with h | h
            · exact HA.out j h
            · rw [h]; exact HO.out
          case measure => simp [intOf]; omega
        · have e0 : widthOk ws = false := by
            cases hq : widthOk ws with
            | false => rfl
            | true =>
              unfold widthOk at hq
              simp only [Bool.and_eq_true] at hq
              exact absurd ((allW_iff ws).1 hq.2 k (by rw [HX.out]; exact hlt)) hok
          have E1 : Hid (widthE ws = 1) := by show _ = _; unfold widthE; rw [e0]; rfl
          have E2 : Hid (widthN ws = 0) := by show _ = _; unfold widthN; rw [e0]; rfl
          have hn : eI ws k < 1 ∨ 64 < eI ws k := by
            rcases Int.lt_or_le (eI ws k) 1 with h | h
            · exact .inl h
            · rcases Int.lt_or_le 64 (eI ws k) with h' | h'
              · exact .inr h'
              · exact absurd ((okW_iff _).2 ⟨h, h'⟩) hok
          clear hok e0
          rcases hn with hn | hn
          · go_wp2
            go_ret2
            rw [E1.out, E2.out]
            exact ⟨rfl, rfl⟩
          · have hn1 : ¬ eI ws k < 1 := by omega
            go_wp2
            go_ret2
            rw [E1.out, E2.out]
            exact ⟨rfl, rfl⟩
      · have hkn : k = n := by omega
        subst hkn
        have e0 : widthOk ws = true := by
          unfold widthOk
          rw [Bool.and_eq_true]
          exact ⟨by rw [HX.out]; simp; omega, (allW_iff ws).2 fun j hj => HA.out j (by have := HX.out; omega)⟩
        have et : ws.take k = ws := List.take_of_length_le (by rw [HX.out]; exact Nat.le_refl _)
        rw [et] at hb ⊢
        have E1 : Hid (widthE ws = 0) := by show _ = _; unfold widthE; rw [e0]; rfl
        have E2 : Hid (widthN ws = (sumW ws + 7) / 8) := by show _ = _; unfold widthN; rw [e0]; rfl
        clear e0 et
        go_wp2
        go_ret2
        rw [E1.out, E2.out]
        exact ⟨rfl, rfl⟩
theorem refWidth_ok (p : Option Addr) (n c : Nat) (ws : List Int) (w : World) (hx : InI w p n c ws) (h : widthOk ws = true) :
    Calls Try.prog 50 #[.slice p n c] w fun e w' => e = .returned (.tuple #[.int .i64 (bytesW ws), .int .i64 0]) ∧ w' = w := by
  have := refWidth_any p n c ws w hx
  rw [(widthN_ok h).1, show widthE ws = 0 from by unfold widthE; rw [if_pos h]] at this
  exact this
theorem refWidth_no (p : Option Addr) (n c : Nat) (ws : List Int) (w : World) (hx : InI w p n c ws) (h : widthOk ws = false) :
    Calls Try.prog 50 #[.slice p n c] w fun e w' => e = .returned (.tuple #[.int .i64 0, .int .i64 1]) ∧ w' = w := by
  have := refWidth_any p n c ws w hx
  rw [show widthN ws = 0 from by unfold widthN; rw [h]; rfl, show widthE ws = 1 from by unfold widthE; rw [h]; rfl] at this
  exact this
end Go.Proofs.Ytgeomfgfeemciaa
