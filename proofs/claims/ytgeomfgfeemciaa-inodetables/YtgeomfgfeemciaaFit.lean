/-
  What seal's fit answers.
-/
import Derived.Test.YtgeomfgfeemciaaWidth
namespace Go.Proofs.Ytgeomfgfeemciaa
open Go.RowKit
theorem widthOk_all {ws : List Int} (h : widthOk ws = true) : ws.all okW = true := by unfold widthOk at h; simp only [Bool.and_eq_true] at h; exact h.2
theorem widthOk_len {ws : List Int} (h : widthOk ws = true) : ws.length ≤ 64 := by unfold widthOk at h; simp only [Bool.and_eq_true, decide_eq_true_eq] at h; exact h.1
/-- Each width has its value, with no 1 bit above it. -/
def fitB (ws : List Int) (vs : List Nat) : Bool := (ws.length == vs.length) && (List.range ws.length).all fun i => decide (vs.getD i 0 < 2 ^ (eI ws i).toNat)
theorem fitB_iff (ws : List Int) (vs : List Nat) : fitB ws vs = true ↔ ws.length = vs.length ∧ ∀ i, i < ws.length → vs.getD i 0 < 2 ^ (eI ws i).toNat := by
  simp [fitB]
theorem shr_nat (v s : Nat) : ((v : Int) / 2 ^ s) = ((v / 2 ^ s : Nat) : Int) := by
  rw [Int.natCast_ediv, Int.natCast_pow]; rfl
theorem shr_fit (v s : Nat) : ((v : Int) / 2 ^ s != 0) = !(decide (v < 2 ^ s)) := by
  rw [shr_nat]
  have hp : 0 < 2 ^ s := Nat.two_pow_pos s
  by_cases h : v < 2 ^ s
  · rw [Nat.div_eq_of_lt h]; simp [h]
  · have : v / 2 ^ s ≠ 0 := by
      intro e
      rcases Nat.div_eq_zero_iff.1 e with h' | h' <;> omega
    simp only [h, decide_false, Bool.not_false, bne_iff_ne, ne_eq]
    omega
theorem fit_any (p q : Option Addr) (n c m d : Nat) (ws : List Int) (vs : List Nat) (w : World) (hx : InI w p n c ws) (hy : In64 w q m d vs) (hok : widthOk ws = true) :
    Calls Try.prog 48 #[.slice p n c, .slice q m d] w fun e w' => e = .returned (.bool (fitB ws vs)) ∧ w' = w := by
  have hroom := hx.room
  have HX : Hid (ws.length = n) := hx.len
  have HY : Hid (vs.length = m) := hy.len
  by_cases hnm : n = m
  · subst hnm
    go_enter Try.func48, Try.ntmps48
    go_wp2
    go_loop [14] (fun i => ∃ k : Nat, k ≤ n ∧ i = .int .i64 k ∧ ∀ j, j < k → vs.getD j 0 < 2 ^ (eI ws j).toNat) (fun i => n - (intOf i).toNat)
    case atStart => exact ⟨0, Nat.zero_le _, rfl, fun j h => by omega⟩
    case round =>
      obtain ⟨k, hk, rfl, hall⟩ := hrel
      have HA : Hid (∀ j, j < k → vs.getD j 0 < 2 ^ (eI ws j).toNat) := hall
      clear hall
      by_cases hlt : k < n
      · obtain ⟨b, o, rfl, hb', hc⟩ := hx.at' (by omega)
        obtain ⟨b', o', rfl, hb'', hc'⟩ := hy.at' (by omega)
        have hck := hc k hlt
        have hck' := hc' k hlt
        have ho := (okW_iff _).1 ((allW_iff ws).1 (widthOk_all hok) k (by rw [HX.out]; exact hlt))
        clear hc hc'
        have HC : Hid ((el vs k / 2 ^ (eI ws k).toNat != 0) = !(decide (vs.getD k 0 < 2 ^ (eI ws k).toNat))) := shr_fit _ _
        go_wp2
        · rename_i ht _
          go_ret
          have hf : ¬ vs.getD k 0 < 2 ^ (eI ws k).toNat := by rw [HC.out] at ht; simpa using ht
          refine ⟨ret_bool ?_, rfl⟩
          cases h : fitB ws vs with
          | false => rfl
          | true => exact absurd (((fitB_iff ws vs).1 h).2 k (by rw [HX.out]; exact hlt)) hf
        · rename_i _ ht
          have hf : vs.getD k 0 < 2 ^ (eI ws k).toNat := by rw [HC.out] at ht; simpa using ht
          go_round
          case rel =>
            refine ⟨k + 1, by omega, by go_num, fun i hi => ?_⟩
            rcases Nat.lt_succ_iff_lt_or_eq.1 hi with h | h
            · exact HA.out i h
            · rw [h]; exact hf
          case measure => simp [intOf]; omega
      · go_wp2
        go_ret
        refine ⟨ret_bool ?_, rfl⟩
        exact ((fitB_iff ws vs).2 ⟨by rw [HX.out, HY.out], fun i hi => HA.out i (by have := HX.out; omega)⟩).symm
  · have hne : ((n : Int) != (m : Int)) = true := by rw [bne_iff_ne]; omega
    go_enter Try.func48, Try.ntmps48
    go_wp2
    go_ret
    refine ⟨ret_bool ?_, rfl⟩
    cases h : fitB ws vs with
    | false => rfl
    | true => have := ((fitB_iff ws vs).1 h).1; rw [HX.out, HY.out] at this; exact absurd this hnm
end Go.Proofs.Ytgeomfgfeemciaa
