/-
  What slipwayref01's State and Open answer.
-/
import Derived.Test.YtbimcdaplnmjdaaRefState
import Derived.Test.YtbimcdaplnmjdaaSided
import Derived.Deep.RegionHeld3
namespace Go.Proofs.Ytbimcdaplnmjdaa
open Go.RowKit
theorem i64_or (a b : Nat) (ha : a < 4611686018427387904) (hb : b < 4611686018427387904) : bits .or .i64 (a : Int) (b : Int) = ((a ||| b : Nat) : Int) := by
  have hx : a ||| b < 2 ^ 62 := Nat.or_lt_two_pow (by omega) (by omega)
  have h1 : (BitVec.ofInt 64 (a : Int)).toNat = a := by
    rw [BitVec.ofInt_natCast, BitVec.toNat_ofNat]; exact Nat.mod_eq_of_lt (by omega)
  have h2 : (BitVec.ofInt 64 (b : Int)).toNat = b := by
    rw [BitVec.ofInt_natCast, BitVec.toNat_ofNat]; exact Nat.mod_eq_of_lt (by omega)
  show IntKind.i64.wrap ((BitVec.ofInt 64 (a : Int) ||| BitVec.ofInt 64 (b : Int)).toNat : Int) = _
  rw [BitVec.toNat_or, h1, h2]
  have e : ((a ||| b : Nat) : Int) % 2 ^ 64 = ((a ||| b : Nat) : Int) := by omega
  simp only [IntKind.wrap, IntKind.bits, IntKind.signed, e]
  rw [if_neg (by simp only [Bool.true_and, decide_eq_true_eq]; omega)]
/-- Four bytes as a number, the highest one first. -/
def num4 (a b c d : Nat) : Nat := a * 16777216 + b * 65536 + c * 256 + d
theorem or4 (a b c d : Nat) (ha : a < 256) (hb : b < 256) (hc : c < 256) (hd : d < 256) :
    bits .or .i64 (bits .or .i64 (bits .or .i64 ((a : Int) * 16777216) ((b : Int) * 65536)) ((c : Int) * 256)) (d : Int) = ((num4 a b c d : Nat) : Int) := by
  have e1 : ((a : Int) * 16777216) = ((a * 16777216 : Nat) : Int) := by omega
  have e2 : ((b : Int) * 65536) = ((b * 65536 : Nat) : Int) := by omega
  have e3 : ((c : Int) * 256) = ((c * 256 : Nat) : Int) := by omega
  rw [e1, e2, e3, i64_or _ _ (by omega) (by omega)]
  have o1 : a * 16777216 ||| b * 65536 = a * 16777216 + b * 65536 := by
    have := Nat.two_pow_add_eq_or_of_lt (i := 24) (b := b * 65536) (by omega) a
    rw [show 2 ^ 24 * a = a * 16777216 from by omega] at this; exact this.symm
  rw [o1, i64_or _ _ (by omega) (by omega)]
  have o2 : (a * 16777216 + b * 65536) ||| c * 256 = a * 16777216 + b * 65536 + c * 256 := by
    have := Nat.two_pow_add_eq_or_of_lt (i := 16) (b := c * 256) (by omega) (a * 256 + b)
    rw [show 2 ^ 16 * (a * 256 + b) = a * 16777216 + b * 65536 from by omega] at this; exact this.symm
  rw [o2, i64_or _ _ (by omega) (by omega)]
  have o3 : (a * 16777216 + b * 65536 + c * 256) ||| d = num4 a b c d := by
    have := Nat.two_pow_add_eq_or_of_lt (i := 8) (b := d) (by omega) (a * 65536 + b * 256 + c)
    rw [show 2 ^ 8 * (a * 65536 + b * 256 + c) = a * 16777216 + b * 65536 + c * 256 from by omega] at this
    unfold num4; exact this.symm
  rw [o3]
theorem cnt_num {a b c d z : Nat} (_ha : a < 256) (hb : b < 256) (hc : c < 256) (hd : d < 256) (hz : z < 4294967296) : [a, b, c, d] = cntZ z ↔ num4 a b c d = z := by
  unfold cntZ num4
  simp only [List.cons.injEq, and_true]
  constructor
  · rintro ⟨h1, h2, h3, h4⟩
    have := val4 z hz
    omega
  · intro h
    have e1 : z / 65536 = z / 256 / 256 := by rw [Nat.div_div_eq_div_mul]
    have e2 : z / 16777216 = z / 256 / 256 / 256 := by rw [Nat.div_div_eq_div_mul, Nat.div_div_eq_div_mul]
    rw [e1, e2]
    omega
theorem drop4 (xs : List Nat) (k : Nat) (h : xs.length = k + 4) : xs.drop k = [xs.getD k 0, xs.getD (k + 1) 0, xs.getD (k + 2) 0, xs.getD (k + 3) 0] := by
  apply List.ext_getElem?
  intro i
  rw [List.getElem?_drop]
  have : i = 0 ∨ i = 1 ∨ i = 2 ∨ i = 3 ∨ 4 ≤ i := by omega
  rcases this with rfl | rfl | rfl | rfl | hi
  · simp [show k < xs.length by omega]
  · simp [show k + 1 < xs.length by omega]
  · simp [show k + 2 < xs.length by omega]
  · simp [show k + 3 < xs.length by omega]
  · rw [List.getElem?_eq_none (by omega), List.getElem?_eq_none (by simpa using hi)]
set_option maxRecDepth 100000 in
theorem refState_any (p : Option Addr) (n c : Nat) (xs : List Nat) (w : World) (hx : In w p n c xs) :
    Calls Try.prog 74 #[.slice p n c] w fun e w' => e = .returned (.int .i64 (stateL xs)) ∧ Below w.heap.size w w' := by
  have hroom := hx.room
  have hcap := hx.cap
  have HX : Hid (xs.length = n) := hx.len
  by_cases h0 : n = 0
  · have hd : ¬ (0 : Int) < (n : Int) := by omega
    have hd4 : (n : Int) < 4 := by omega
    have HE : Hid (stateL xs = 11) := by
      show _ = _
      unfold stateL
      rw [if_neg (by unfold erasedL; rw [HX.out, h0]; simp), if_neg (by rw [HX.out]; omega)]
    clear h0
    go_enter Try.func74, Try.ntmps74
    go_wp2
    go_ret
    exact ⟨ret_int HE.out.symm, Below.refl _ _⟩
  · have hd : (0 : Int) < (n : Int) := by omega
    cases he : xs.all (· == 255) with
    | true =>
      have HE : Hid (stateL xs = 10) := by
        show _ = _
        unfold stateL
        rw [if_pos (by unfold erasedL; rw [HX.out, he]; simp; omega)]
      have HA : Hid (xs.all (· == 255) = true) := he
      clear he
      go_enter Try.func74, Try.ntmps74
      go_wp2_with (go_at_call 77; refine (refOnes_any _ _ _ xs _ hx).mono ?_; rintro e w' ⟨rfl, hw'⟩; have hw2 := hw'.symm; subst hw2; clear hw'; rw [HA.out])
      go_ret
      exact ⟨ret_int HE.out.symm, Below.refl _ _⟩
    | false =>
      have HN : Hid (¬ erasedL xs = true) := by show ¬ _; unfold erasedL; rw [he]; simp
      have HA : Hid (xs.all (· == 255) = false) := he
      clear he
      by_cases hs : n < 4 ∨ 1048580 < n
      · have HE : Hid (stateL xs = 11) := by
          show _ = _
          unfold stateL
          rw [if_neg HN.out, if_neg (by rw [HX.out]; omega)]
        rcases hs with hs | hs
        · have h4 : (n : Int) < 4 := by omega
          go_enter Try.func74, Try.ntmps74
          go_wp2_with (go_at_call 77; refine (refOnes_any _ _ _ xs _ hx).mono ?_; rintro e w' ⟨rfl, hw'⟩; have hw2 := hw'.symm; subst hw2; clear hw'; rw [HA.out])
          go_ret
          exact ⟨ret_int HE.out.symm, Below.refl _ _⟩
        · have h4 : ¬ (n : Int) < 4 := by omega
          have h5 : (1048580 : Int) < (n : Int) := by omega
          go_enter Try.func74, Try.ntmps74
          go_wp2_with (go_at_call 77; refine (refOnes_any _ _ _ xs _ hx).mono ?_; rintro e w' ⟨rfl, hw'⟩; have hw2 := hw'.symm; subst hw2; clear hw'; rw [HA.out])
          go_ret
          exact ⟨ret_int HE.out.symm, Below.refl _ _⟩
      · obtain ⟨k, rfl⟩ : ∃ k, n = k + 4 := ⟨n - 4, by omega⟩
        obtain ⟨b, o, rfl, hb, hc⟩ := hx.at' (by omega)
        have h45 : (k : Int) ≤ 1048576 := by omega
        clear hs
        have hf := hx.front k (by omega)
        have hs2 := slice_front (some ⟨b, o, none⟩) (k + 4) c k (by omega) hcap
        have c0 := hc k (by omega)
        have c1 := hc (k + 1) (by omega)
        have c2 := hc (k + 2) (by omega)
        have c3 := hc (k + 3) (by omega)
        have r0 := hx.range k
        have r1 := hx.range (k + 1)
        have r2 := hx.range (k + 2)
        have r3 := hx.range (k + 3)
        clear hc
        go_enter Try.func74, Try.ntmps74
        go_wp2_with fail
        refine (refOnes_any _ _ _ xs _ hx).mono ?_
        rintro e w' ⟨rfl, hw'⟩
        subst hw'
        rw [HA.out]
        go_wp2_with fail
        go_quiet (fail)
        go_wp2_with fail
        refine (refZeros_any _ _ _ (xs.take k) _ (hf.below (below_drewN (Below.refl _ _) _))).mono ?_
        rintro e w2 ⟨rfl, hw2⟩
        subst hw2
        have HV : Hid (bits .or .i64 (bits .or .i64 (bits .or .i64 (el xs k * 16777216) (el xs (k + 1) * 65536)) (el xs (k + 2) * 256)) (el xs (k + 3)) = ((num4 (xs.getD k 0) (xs.getD (k + 1) 0) (xs.getD (k + 2) 0) (xs.getD (k + 3) 0) : Nat) : Int)) := by
          show _ = _
          unfold el at r0 r1 r2 r3
          exact or4 _ _ _ _ (by omega) (by omega) (by omega) (by omega)
        have HD : Hid (xs.drop k = cnt (xs.take k) ↔ num4 (xs.getD k 0) (xs.getD (k + 1) 0) (xs.getD (k + 2) 0) (xs.getD (k + 3) 0) = zeros (xs.take k)) := by
          have hz := zeros_le (xs.take k)
          rw [hf.len] at hz
          unfold el at r0 r1 r2 r3
          show _ ↔ _
          rw [drop4 xs k HX.out]
          exact cnt_num (by omega) (by omega) (by omega) (by omega) (by omega)
        by_cases hq : num4 (xs.getD k 0) (xs.getD (k + 1) 0) (xs.getD (k + 2) 0) (xs.getD (k + 3) 0) = zeros (xs.take k)
        · have hb1 : (bits .or .i64 (bits .or .i64 (bits .or .i64 (el xs k * 16777216) (el xs (k + 1) * 65536)) (el xs (k + 2) * 256)) (el xs (k + 3)) != ((zeros (xs.take k) : Nat) : Int)) = false := by rw [HV.out, hq]; simp
          have HE : Hid (stateL xs = 0) := by
            show _ = _
            unfold stateL
            rw [if_neg HN.out, if_pos ⟨by rw [HX.out]; omega, by rw [HX.out]; omega, by rw [HX.out, show k + 4 - 4 = k from by omega]; exact HD.out.2 hq⟩]
          clear hq c0 c1 c2 c3 r0 r1 r2 r3
          go_wp2
          go_ret
          exact ⟨ret_int HE.out.symm, below_drewN (Below.refl _ _) _⟩
        · have hb1 : (bits .or .i64 (bits .or .i64 (bits .or .i64 (el xs k * 16777216) (el xs (k + 1) * 65536)) (el xs (k + 2) * 256)) (el xs (k + 3)) != ((zeros (xs.take k) : Nat) : Int)) = true := by rw [HV.out, bne_iff_ne]; omega
          have HE : Hid (stateL xs = 11) := by
            show _ = _
            unfold stateL
            rw [if_neg HN.out, if_neg (by rw [HX.out, show k + 4 - 4 = k from by omega]; intro h; exact hq (HD.out.1 h.2.2))]
          clear hq c0 c1 c2 c3 r0 r1 r2 r3
          go_wp2
          go_ret
          exact ⟨ret_int HE.out.symm, below_drewN (Below.refl _ _) _⟩
set_option maxRecDepth 100000 in
theorem refOpen_any (p : Option Addr) (n c : Nat) (xs : List Nat) (w : World) (hx : In w p n c xs) :
    Calls Try.prog 62 #[.slice p n c] w fun e w' => ∃ p' n' c', e = .returned (.tuple #[.slice p' n' c', .int .i64 (stateL xs)]) ∧ In w' p' n' c' (openL xs) ∧ Below w.heap.size w w' := by
  have hroom := hx.room
  have HX : Hid (xs.length = n) := hx.len
  obtain ⟨i0, hi, hz0, hz1, hz2⟩ := info_parts info5
  by_cases hs : stateL xs = 0
  · obtain ⟨h4, h5, _⟩ := state_okL hs
    rw [hx.len] at h4 h5
    have HS : Hid (stateL xs = 0) := hs
    have HO : Hid (openL xs = xs.take (n - 4)) := by show _ = _; unfold openL; rw [if_pos hs, HX.out]
    clear hs
    obtain ⟨k, rfl⟩ : ∃ k, n = k + 4 := ⟨n - 4, by omega⟩
    obtain ⟨b, o, rfl, _, _⟩ := hx.at' (by omega)
    have hf := hx.front k (by omega)
    have hs2 := slice_front (some ⟨b, o, none⟩) (k + 4) c k (by omega) hx.cap
    have HF : Hid ((xs.take k).length = k) := hf.len
    go_enter Try.func62, Try.ntmps62
    go_wp2_with fail
    refine (refState_any _ (k + 4) c xs _ hx).mono ?_
    rintro e w1 ⟨rfl, hb1⟩
    rw [HS.out]
    have hf1 := hf.below hb1
    go_wp2_with (at_builtin; refine wpList_append_own _ rfl (.tmp 11) (.tmp 16) 44 rfl w1.heap.size 5 i0 (.int .u8 0) 1 1 Try.underlying44 hi hz0 hz1 hz2 rfl (by decide) (.slice none 0 0) 0 [] rfl (World.ownsRow_nil _ _ _ _) ⟨b, o, none⟩ k c (vals (xs.take k)) rfl (by rw [vals_length, HF.out, Nat.mul_one]) (hf1.cells rfl) (vals_one _) (by unfold maxLen; omega) (by omega) (Nat.le_refl _) ?_; intro v2 w2 hown2 hgrow2 _)
    have hb2 := below_grown0 (w1 := w2) hgrow2
    go_ret2
    rw [List.nil_append] at hown2
    obtain ⟨p', c', hv, hin⟩ := in_of_owns hown2 hf.byte (by omega)
    cases hv
    rw [HO.out, HS.out, show k + 4 - 4 = k from by omega]
    exact ⟨_, _, _, rfl, hin, hb1.trans (hb2.mono hb1.size)⟩
  · have hne : (stateL xs != 0) = true := by rw [bne_iff_ne]; exact hs
    have HO : Hid (openL xs = []) := by show _ = _; unfold openL; rw [if_neg hs]
    clear hs
    go_enter Try.func62, Try.ntmps62
    go_wp2_with fail
    refine (refState_any p n c xs _ hx).mono ?_
    rintro e w1 ⟨rfl, hb1⟩
    go_wp2
    go_ret2
    rw [HO.out]
    exact ⟨_, _, _, rfl, In.empty _, hb1⟩
end Go.Proofs.Ytbimcdaplnmjdaa
