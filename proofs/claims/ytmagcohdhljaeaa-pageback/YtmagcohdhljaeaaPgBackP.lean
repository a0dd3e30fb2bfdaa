/-
  Plain facts: what is encoded is decoded as it was.
-/
import Derived.Test.YtmagcohdhljaeaaPgZeros
namespace Go.Proofs.Ytmagcohdhljaeaa
open Go.RowKit
theorem sealed_state {xs : List Nat} (hm : xs.length ≤ 1048576) : stateL (xs ++ cnt xs) = 0 := by
  have hz := zeros_le xs
  have hne : erasedL (xs ++ cnt xs) = false := by
    cases h : erasedL (xs ++ cnt xs) with
    | false => rfl
    | true =>
      unfold erasedL at h
      simp only [Bool.and_eq_true] at h
      have := (all_iff _).1 h.2 xs.length (by rw [List.length_append, cnt_length]; omega)
      rw [show (xs ++ cnt xs).getD xs.length 0 = zeros xs / 16777216 % 256 from by simp [cnt, cntZ]] at this
      omega
  have hl : (xs ++ cnt xs).length = xs.length + 4 := by rw [List.length_append, cnt_length]
  unfold stateL
  rw [hne, hl, show xs.length + 4 - 4 = xs.length from by omega, List.drop_left' rfl, List.take_left' rfl]
  simp
  omega
theorem encE_ok {k g s t : Int} {data : List Nat} (he : encE k g s t data = 0) : chkB k g s t = true ∧ data.length ≤ 256 := by
  unfold encE at he
  split at he
  · split at he
    · simp at he
    · exact ⟨by assumption, by omega⟩
  · simp at he
theorem fillD_fillD {data : List Nat} (h : data.length ≤ 256) : fillD (fillD data) = fillD data := by
  have hl := fillD_length h
  show fillD data ++ List.replicate (256 - (fillD data).length) 0 = fillD data
  rw [hl]
  simp
theorem wrap_in {x : Int} (h0 : 0 ≤ x) (h : x ≤ 1152921504606846976) : IntKind.i64.wrap ((x.toNat : Nat) : Int) = x := by
  rw [IntKind.wrap_i64]; omega
theorem back {k g s t : Int} {data : List Nat} (he : encE k g s t data = 0) :
    decE (encP k g s t data) = 0 ∧ hv0 (encP k g s t data) = k ∧ hv1 (encP k g s t data) = g ∧ hv2 (encP k g s t data) = s ∧ hv3 (encP k g s t data) = t ∧ (encP k g s t data).take 256 = fillD data := by
  obtain ⟨hc, hl⟩ := encE_ok he
  have hb := chkB_iff.1 hc
  have hfl := fillD_length hl
  have hhl := headL_length hc
  have eP : encP k g s t data = fillD data ++ (headL k g s t ++ cnt (bodyL k g s t data)) := by
    unfold encP; rw [if_pos he]; unfold encL; conv => lhs; unfold bodyL
    rw [List.append_assoc]; rfl
  have e1 : (encP k g s t data).take 256 = fillD data := by
    rw [eP, List.take_append_of_le_length (by omega), List.take_of_length_le (by omega)]
  have e2 : ((encP k g s t data).drop 256).take 28 = headL k g s t := by
    rw [eP, List.drop_append, List.drop_of_length_le (by omega), hfl, List.nil_append, Nat.sub_self, List.drop_zero, List.take_append_of_le_length (by omega), List.take_of_length_le (by omega)]
  have hv : valsTo wsH (headL k g s t) 6 = headV k g s t := by
    rw [← head_unpackL hhl]; exact (there (head_ok hc)).2
  have f : ∀ i, fld (encP k g s t data) i = (headV k g s t).getD i 0 := fun i => by unfold fld; rw [e2, hv]
  have v0 : hv0 (encP k g s t data) = k := by unfold hv0; rw [f 0]; exact wrap_in (by omega) (by omega)
  have v1 : hv1 (encP k g s t data) = g := by unfold hv1; rw [f 2]; exact wrap_in (by omega) (by omega)
  have v2 : hv2 (encP k g s t data) = s := by unfold hv2; rw [f 3]; exact wrap_in (by omega) (by omega)
  have v3 : hv3 (encP k g s t data) = t := by unfold hv3; rw [f 4]; exact wrap_in (by omega) (by omega)
  have aE : agE (encP k g s t data) = 0 := by
    unfold agE; rw [v0, v1, v2, v3, e1]; unfold encE; rw [hc, if_pos rfl, if_neg (by omega)]
  have aP : agP (encP k g s t data) = encP k g s t data := by
    have hE : encE k g s t (fillD data) = 0 := by unfold encE; rw [hc, if_pos rfl, if_neg (by omega)]
    have : encP k g s t (fillD data) = encP k g s t data := by
      unfold encP; rw [if_pos he, if_pos hE]; unfold encL bodyL; rw [fillD_fillD hl]
    unfold agP; rw [v0, v1, v2, v3, e1, this]
  have hs : stateL (encP k g s t data) = 0 := by
    have : encP k g s t data = bodyL k g s t data ++ cnt (bodyL k g s t data) := by unfold encP; rw [if_pos he]; rfl
    rw [this]; exact sealed_state (by rw [bodyL_length hc hl]; decide)
  refine ⟨?_, v0, v1, v2, v3, e1⟩
  unfold decE decOk
  rw [if_pos hs, aE, aP]
  simp
end Go.Proofs.Ytmagcohdhljaeaa
