/-
  Plain facts: when the header is one that Encode puts.
-/
import Derived.Test.YtmagcohdhljaeaaPgRefEnc
import Derived.Test.YtmagcohdhljaeaaRefUnpack
import Derived.Test.YtmagcohdhljaeaaRefOpen
namespace Go.Proofs.Ytmagcohdhljaeaa
open Go.RowKit
/-- A page's 28 bytes of header. -/
def x28 (P : List Nat) : List Nat := (P.drop 256).take 28
theorem x28_length {P : List Nat} (hP : IsP P) : (x28 P).length = 28 := by unfold x28; rw [List.length_take, List.length_drop, hP.1]; rfl
theorem x28_byte {P : List Nat} (hP : IsP P) : ∀ x ∈ x28 P, x < 256 := fun x hx => hP.2 x (List.mem_of_mem_drop (List.mem_of_mem_take hx))
theorem fillD_full {D : List Nat} (h : D.length = 256) : fillD D = D := by unfold fillD; rw [h]; simp
theorem page_parts {P : List Nat} (hP : IsP P) (hs : stateL P = 0) : P = (P.take 256 ++ x28 P) ++ cnt (P.take 256 ++ x28 P) := by
  obtain ⟨_, _, h3⟩ := state_okL hs
  rw [hP.1, show 288 - 4 = 284 from rfl] at h3
  have e : P.take 284 = P.take 256 ++ x28 P := by
    unfold x28
    rw [show 284 = 256 + 28 from rfl, List.take_add]
  conv => lhs; rw [← List.take_append_drop 284 P, h3, e]
theorem dec_iff {P : List Nat} (hP : IsP P) (hs : stateL P = 0) : decOk P = (chkB (hv0 P) (hv1 P) (hv2 P) (hv3 P) && headL (hv0 P) (hv1 P) (hv2 P) (hv3 P) == x28 P) := by
  have hl : (P.take 256).length = 256 := by rw [List.length_take, hP.1]; rfl
  cases hc : chkB (hv0 P) (hv1 P) (hv2 P) (hv3 P) with
  | false =>
    have e : agE P = 30 := by unfold agE encE; rw [hc]; rfl
    unfold decOk; rw [e]; rfl
  | true =>
    have e : agE P = 0 := by unfold agE encE; rw [hc, if_pos rfl, if_neg (by omega)]
    have e2 : agP P = (P.take 256 ++ headL (hv0 P) (hv1 P) (hv2 P) (hv3 P)) ++ cnt (P.take 256 ++ headL (hv0 P) (hv1 P) (hv2 P) (hv3 P)) := by
      have e0 : encE (hv0 P) (hv1 P) (hv2 P) (hv3 P) (P.take 256) = 0 := e
      unfold agP encP; rw [if_pos e0]; unfold encL bodyL; rw [fillD_full hl]
    unfold decOk
    rw [e, show ((0 : Int) == 0) = true from rfl, Bool.true_and, Bool.true_and]
    have hpp := page_parts hP hs
    have hh := headL_length hc
    generalize headL (hv0 P) (hv1 P) (hv2 P) (hv3 P) = X at *
    by_cases hx : X = x28 P
    · rw [beq_iff_eq.2 hx]
      rw [e2, hx, ← hpp]
      simp
    · rw [beq_eq_false_iff_ne.2 hx]
      refine beq_eq_false_iff_ne.2 (fun h => hx ?_)
      have h1 : (agP P).drop 256 = X ++ cnt (P.take 256 ++ X) := by
        rw [e2, List.append_assoc, List.drop_append, List.drop_of_length_le (by omega), hl, List.nil_append, Nat.sub_self, List.drop_zero]
      have h2 : ((agP P).drop 256).take 28 = X := by rw [h1, List.take_append_of_le_length (by omega), List.take_of_length_le (by omega)]
      rw [h] at h2
      exact h2.symm
theorem fld_lim (P : List Nat) (i : Nat) : fld P i < 18446744073709551616 := by
  unfold fld
  have h := valsTo_lim wsH_ok ((P.drop 256).take 28) 6
  by_cases hi : i < (valsTo wsH ((P.drop 256).take 28) 6).length
  · have := h _ (List.getElem_mem hi)
    simpa [hi] using this
  · rw [List.getD_eq_getElem?_getD, List.getElem?_eq_none (by omega)]
    decide
theorem chk_small {P : List Nat} (h : chkB (hv0 P) (hv1 P) (hv2 P) (hv3 P) = true) : (fld P 3 : Int) ≤ 1152921504606846976 ∧ (fld P 4 : Int) ≤ 1152921504606846976 := by
  have hc := chkB_iff.1 h
  have h3 := fld_lim P 3
  have h4 := fld_lim P 4
  have e2 : hv2 P = IntKind.i64.wrap (fld P 3) := rfl
  have e3 : hv3 P = IntKind.i64.wrap (fld P 4) := rfl
  rw [IntKind.wrap_i64] at e2 e3
  omega
/-- The fields, by the widths that are named. -/
theorem fld5 (P : List Nat) (hP : IsP P) (i : Nat) (hi : i < 5) : (valsTo ws5 ((x28 P).take 22) 5).getD i 0 = fld P i := by
  have hl := x28_length hP
  have := vals5 ((x28 P).take 22) ((x28 P).drop 22) (by rw [List.length_take, hl]; rfl) i hi
  rw [List.take_append_drop] at this
  exact this.symm
theorem unpack5_E {xs : List Nat} (h : xs.length = 22) : unpackE ws5 xs = 0 := by
  have ht : tailN ws5 xs = 0 := by
    unfold tailN
    rw [ws5_bytes, show atW ws5 ws5.length = 176 from by decide +kernel]
    rfl
  unfold unpackE
  rw [if_neg (by rw [ws5_ok]; decide), if_neg (by rw [h, ws5_bytes]; decide), if_neg (by rw [ht]; decide)]
theorem unpack5_L {xs : List Nat} (h : xs.length = 22) : unpackL ws5 xs = valsTo ws5 xs 5 := by
  unfold unpackL; rw [if_pos (unpack5_E h)]; rfl
theorem refUnpack5 (p q : Option Addr) (d : Nat) (xs : List Nat) (w : World) (hx : InI w p 5 5 ws5) (hy : In w q 22 d xs) :
    Calls Try.prog 42 #[.slice p 5 5, .slice q 22 d] w fun e w' => ∃ p' c', e = .returned (.tuple #[.slice p' 5 c', .int .i64 0]) ∧ In64 w' p' 5 c' (valsTo ws5 xs 5) ∧ Below w.heap.size w w' := by
  refine (refUnpack_any p q 5 5 22 d ws5 xs w hx hy).mono ?_
  rintro e w1 ⟨p', n', c', rfl, hin, hb⟩
  rw [unpack5_L hy.len] at hin
  have e3 : n' = 5 := by rw [← hin.len, valsTo_length]; rfl
  subst e3
  rw [unpack5_E hy.len]
  exact ⟨p', c', rfl, hin, hb⟩
theorem refOpen_284 (p : Option Addr) (c : Nat) (P : List Nat) (hP : IsP P) (hs : stateL P = 0) (w : World) (hx : In w p 288 c P) :
    Calls Try.prog 40 #[.slice p 288 c] w fun e w' => ∃ b o c', e = .returned (.tuple #[.slice (some ⟨b, o, none⟩) 284 c', .int .i64 0]) ∧ In w' (some ⟨b, o, none⟩) 284 c' (P.take 284) ∧ Below w.heap.size w w' := by
  refine (refOpen_any p 288 c P w hx).mono ?_
  rintro e w1 ⟨p', n', c', rfl, hin, hb⟩
  rw [show openL P = P.take 284 from by unfold openL; rw [if_pos hs, hP.1]] at hin
  have e3 : n' = 284 := by rw [← hin.len, List.length_take, hP.1]; rfl
  subst e3
  rw [hs]
  obtain ⟨b, o, rfl, _, _⟩ := hin.at' (by decide)
  exact ⟨b, o, c', rfl, hin, hb⟩
theorem take_x28 (P : List Nat) : (P.take 284).drop 256 = x28 P := by
  unfold x28; rw [List.drop_take]
end Go.Proofs.Ytmagcohdhljaeaa
