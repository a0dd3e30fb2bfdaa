/-
  What slipwayref01's Seal, ones, State and Open answer.
-/
import Derived.Test.YtbimcdaplnmjdaaRefZeros
import Derived.Test.YtbimcdaplnmjdaaRefMask
import Derived.Test.YtbimcdaplnmjdaaOpenD
namespace Go.Proofs.Ytbimcdaplnmjdaa
open Go.RowKit
set_option maxRecDepth 100000 in
theorem refOnes_any (p : Option Addr) (n c : Nat) (xs : List Nat) (w : World) (hx : In w p n c xs) :
    Calls Try.prog 77 #[.slice p n c] w fun e w' => e = .returned (.bool (xs.all (· == 255))) ∧ w' = w := by
  have hroom := hx.room
  have HX : Hid (xs.length = n) := hx.len
  go_enter Try.func77, Try.ntmps77
  go_wp2
  go_loop [3] (fun i => ∃ k : Nat, k ≤ n ∧ i = .int .i64 k ∧ ∀ j, j < k → xs.getD j 0 = 255) (fun i => n - (intOf i).toNat)
  case atStart => exact ⟨0, Nat.zero_le _, rfl, fun j h => by omega⟩
  case round =>
    obtain ⟨k, hk, rfl, hall⟩ := hrel
    have HA : Hid (∀ j, j < k → xs.getD j 0 = 255) := hall
    clear hall
    by_cases hlt : k < n
    · obtain ⟨b, o, rfl, hb, hc⟩ := hx.at' (by omega)
      have hck := hc k hlt
      clear hc
      cases hv : (el xs k != 255) with
      | true =>
        have ht : el xs k ≠ 255 := by rw [bne_iff_ne] at hv; exact hv
        have HT : Hid (el xs k ≠ 255) := ht
        clear ht
        go_wp2
        go_ret
        refine ⟨ret_bool ?_, rfl⟩
        cases h : xs.all (· == 255) with
        | false => rfl
        | true =>
          have := (all_iff xs).1 h k (by rw [HX.out]; exact hlt)
          exact absurd (show el xs k = 255 by unfold el; rw [this]; rfl) HT.out
      | false =>
        have hf : xs.getD k 0 = 255 := by
          have := WalkArith.int_eq' hv
          unfold el at this; omega
        have HF : Hid (xs.getD k 0 = 255) := hf
        clear hf
        go_wp2
        go_round
        case rel =>
          refine ⟨k + 1, by omega, by go_num, fun j hj => ?_⟩
          rcases Nat.lt_succ_iff_lt_or_eq.1 hj with h | h
          · exact HA.out j h
          · rw [h]; exact HF.out
        case measure => simp [intOf]; omega
    · go_wp2
      go_ret
      refine ⟨ret_bool ?_, rfl⟩
      exact ((all_iff xs).2 fun j hj => HA.out j (by have := HX.out; omega)).symm
theorem cnt_cells (xs : List Nat) (h : zeros xs < 4294967296) : (#[Value.int IntKind.u8 ((zeros xs : Int) / 16777216), Value.int IntKind.u8 ((zeros xs : Int) / 65536 % 256), Value.int IntKind.u8 ((zeros xs : Int) / 256 % 256), Value.int IntKind.u8 ((zeros xs : Int) % 256)] : Array Value).toList = vals (cnt xs) := by
  simp only [cnt, cntZ, vals, List.map_cons, List.map_nil]
  have e1 : ((zeros xs : Int) / 16777216) = ((zeros xs / 16777216 % 256 : Nat) : Int) := by omega
  have e2 : ((zeros xs : Int) / 65536 % 256) = ((zeros xs / 65536 % 256 : Nat) : Int) := by omega
  have e3 : ((zeros xs : Int) / 256 % 256) = ((zeros xs / 256 % 256 : Nat) : Int) := by omega
  have e4 : ((zeros xs : Int) % 256) = ((zeros xs % 256 : Nat) : Int) := by omega
  rw [e1, e2, e3, e4]
set_option maxRecDepth 100000 in
theorem refSeal_any (p : Option Addr) (n c : Nat) (xs : List Nat) (w : World) (hx : In w p n c xs) :
    Calls Try.prog 60 #[.slice p n c] w fun e w' => ∃ p' n' c', e = .returned (.tuple #[.slice p' n' c', .int .i64 (sealE xs)]) ∧ In w' p' n' c' (sealL xs) ∧ Below w.heap.size w w' := by
  have hroom := hx.room
  have HX : Hid (xs.length = n) := hx.len
  obtain ⟨i0, hi, hz0, hz1, hz2⟩ := info_parts info5
  by_cases hl : 1048576 < n
  · have h1 : (1048576 : Int) < (n : Int) := by omega
    go_enter Try.func60, Try.ntmps60
    go_wp2
    go_ret2
    have e1 : sealE xs = 3 := by unfold sealE; rw [if_pos (by rw [HX.out]; exact hl)]
    have e2 : sealL xs = [] := by unfold sealL; rw [if_pos (by rw [HX.out]; exact hl)]
    rw [e1, e2]
    exact ⟨_, _, _, rfl, In.empty _, Below.refl _ _⟩
  · have h1 : ¬ (1048576 : Int) < (n : Int) := by omega
    have hz := zeros_le xs
    rw [hx.len] at hz
    have HC : Hid ((#[Value.int IntKind.u8 ((zeros xs : Int) / 16777216), Value.int IntKind.u8 ((zeros xs : Int) / 65536), Value.int IntKind.u8 ((zeros xs : Int) / 256 % 256), Value.int IntKind.u8 ((zeros xs : Int) % 256)] : Array Value).toList = vals (cnt xs)) := by
      show _ = _
      have := cnt_cells xs (by omega)
      rw [show ((zeros xs : Int) / 65536 % 256) = ((zeros xs : Int) / 65536) from by omega] at this
      exact this
    have e1 : sealE xs = 0 := by unfold sealE; rw [if_neg (by rw [HX.out]; exact hl)]
    have e2 : sealL xs = xs ++ cnt xs := by unfold sealL; rw [if_neg (by rw [HX.out]; exact hl)]
    rw [e1, e2]
    clear e1 e2
    have HB : Hid (∀ x ∈ xs ++ cnt xs, x < 256) := by intro x hxm; rcases List.mem_append.1 hxm with h | h; exact hx.byte x h; exact cntZ_byte _ x h
    cases p with
    | none =>
      have h2 := hx.nil rfl
      have h3 := hx.cap
      have h4 : n = 0 := by omega
      subst h2
      subst h4
      have hxs : xs = [] := List.eq_nil_of_length_eq_zero HX.out
      subst hxs
      go_enter Try.func60, Try.ntmps60
      go_wp2_with (first
        | (go_at_call 72; refine (refZeros_any _ _ _ [] _ hx).mono ?_; rintro e w' ⟨rfl, hw'⟩; have hw2 := hw'.symm; subst hw2; clear hw')
        | (at_builtin; refine wpList_append_own_none rfl (.tmp 11) (.tmp 12) 44 rfl w.heap.size 5 i0 1 Try.underlying44 hi (.slice none 0 0) 0 [] rfl (World.ownsRow_nil _ _ _ _) rfl ?_)
        | (at_builtin; refine wpList_append_own _ rfl (.tmp 14) (.tmp 26) 44 rfl w.heap.size 5 i0 (.int .u8 0) 1 1 Try.underlying44 hi hz0 hz1 hz2 rfl (by decide) (.slice none 0 0) 0 [] rfl (World.ownsRow_nil _ _ _ _) ⟨w.heap.size, 0, none⟩ 4 4 (vals (cnt [])) rfl rfl ((in_lit w (n := 4) rfl rfl (cntZ_byte _) (by decide)).cells rfl) (vals_one _) (by unfold maxLen; omega) (by omega) (by simp) ?_; intro v2 w2 hown2 hgrow2 _))
      have hb2 := below_app (Below.refl w.heap.size w) (Nat.le_refl _) (World.ownsRow_nil w w.heap.size 5 1) hgrow2
      go_ret2
      rw [List.nil_append] at hown2
      obtain ⟨p', c', hv, hin⟩ := in_of_owns hown2 (cntZ_byte _) (by omega)
      cases hv
      exact ⟨_, _, _, rfl, hin, hb2⟩
    | some a =>
      go_enter Try.func60, Try.ntmps60
      go_wp2_with (first
        | (go_at_call 72; refine (refZeros_any _ _ _ xs _ hx).mono ?_; rintro e w' ⟨rfl, hw'⟩; have hw2 := hw'.symm; subst hw2; clear hw')
        | (at_builtin; refine wpList_append_own _ rfl (.tmp 11) (.tmp 12) 44 rfl w.heap.size 5 i0 (.int .u8 0) 1 1 Try.underlying44 hi hz0 hz1 hz2 rfl (by decide) (.slice none 0 0) 0 [] rfl (World.ownsRow_nil _ _ _ _) a n c (vals xs) rfl (by rw [vals_length, HX.out, Nat.mul_one]) (hx.cells rfl) (vals_one xs) (by unfold maxLen; omega) (by omega) (Nat.le_refl _) ?_; intro v1 w1 hown1 hgrow1 _)
        | (at_builtin; refine wpList_append_own _ rfl (.tmp 14) (.tmp 26) 44 rfl w.heap.size 5 i0 (.int .u8 0) 1 1 Try.underlying44 hi hz0 hz1 hz2 rfl (by decide) v1 (0 + n) ([] ++ vals xs) rfl (hown1.alloc _) ⟨w1.heap.size, 0, none⟩ 4 4 (vals (cnt xs)) rfl rfl ((in_lit w1 (n := 4) HC.out rfl (cntZ_byte _) (by decide)).cells rfl) (vals_one _) (by unfold maxLen; omega) (by omega) (by have := hgrow1.size; simp; omega) ?_; intro v2 w2 hown2 hgrow2 _))
      have hb1 := below_grown0 (w1 := w1) hgrow1
      have hb2 := below_app hb1 (Nat.le_refl _) hown1 hgrow2
      go_ret2
      rw [List.nil_append, ← vals_append] at hown2
      obtain ⟨p', c', hv, hin⟩ := in_of_owns hown2 HB.out (by omega)
      cases hv
      exact ⟨_, _, _, rfl, hin, hb2⟩
end Go.Proofs.Ytbimcdaplnmjdaa
