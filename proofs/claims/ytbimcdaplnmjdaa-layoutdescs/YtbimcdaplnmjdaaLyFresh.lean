/-
  What seal.Unpack and layout.take answer lies in a new block.
-/
import Derived.Test.YtbimcdaplnmjdaaLyDec
namespace Go.Proofs.Ytbimcdaplnmjdaa
open Go.RowKit
theorem unpack_fresh (p q : Option Addr) (n c m d : Nat) (ws : List Int) (xs : List Nat) (w : World) (hx : InI w p n c ws) (hy : In w q m d xs) :
    Calls Try.prog 76 #[.slice p n c, .slice q m d] w fun e w' => ∃ p' n' c', e = .returned (.tuple #[.slice p' n' c', .int .i64 (unpackE ws xs)]) ∧ In64 w' p' n' c' (unpackL ws xs) ∧ Below w.heap.size w w' ∧ ∀ a, p' = some a → w.heap.size ≤ a.block := by
  have hroom := hx.room
  have hroomm := hy.room
  have HX : Hid (ws.length = n) := hx.len
  have HY : Hid (xs.length = m) := hy.len
  obtain ⟨i0, hi, hz0, hz1, hz2⟩ := info_parts info64
  cases hok : widthOk ws with
  | false =>
    have e1 : unpackE ws xs = 1 := by unfold unpackE; rw [if_pos hok]
    have e2 : unpackL ws xs = [] := by unfold unpackL; rw [e1]; rfl
    rw [e1, e2]
    have HO : Hid (widthOk ws = false) := hok
    clear e1 e2 hok
    go_enter Try.func76, Try.ntmps76
    go_wp2_with (go_at_call 67; refine (width_no p n c ws w hx HO.out).mono ?_; rintro e w' ⟨rfl, hw'⟩; have hw2 := hw'.symm; subst hw2; clear hw')
    go_ret2
    exact ⟨_, _, _, rfl, In64.empty _, Below.refl _ _, fun a h => by cases h⟩
  | true =>
    have hN := (widthN_ok hok).2
    have hl64 := widthOk_len hok
    rw [HX.out] at hl64
    have hnf : ¬ widthOk ws = false := by rw [hok]; simp
    by_cases hm : m = bytesW ws
    · have hb1 : ((m : Int) != (bytesW ws : Int)) = false := by rw [hm]; simp
      have hat := atW_cast hok ws.length (Nat.le_refl _)
      rw [HX.out] at hat
      have htl : 8 * bytesW ws - atW ws n ≤ 64 ∧ atW ws n ≤ 8 * bytesW ws := by
        unfold bytesW; rw [HX.out]; omega
      have HO : Hid (widthOk ws = true) := hok
      have HM : Hid (m = bytesW ws) := hm
      clear hok hm
      go_enter Try.func76, Try.ntmps76
      go_wp2_with (first
        | (go_at_call 67; refine (width_ok p n c ws w hx HO.out).mono ?_; rintro e w' ⟨rfl, hw'⟩; have hw2 := hw'.symm; subst hw2; clear hw')
        | (at_make; refine wpList_make_full _ rfl _ _ 79 rfl w.heap.size 73 i0 (.int .u64 0) 1 Try.underlying79 hi hz0 hz1 .i64 .i64 _ _ n rfl rfl rfl rfl (by rw [hz2]; omega) (by unfold maxLen; omega) (Nat.le_refl _) ?_; intro w1 hown1 hgrow1))
      have hown2 := made64 hown1
      have hbel2 := below_grown0 hgrow1
      clear hown1 hgrow1
      go_loopw [9, 29] (fun a i wr => ∃ k : Nat, k ≤ n ∧ i = .int .i64 k ∧ a = .int .i64 (atW ws k) ∧ wr.ownsRow w.heap.size 73 1 (.slice (some ⟨w.heap.size, 0, none⟩) n n) n (vals64 (valsTo ws xs k)) ∧ Below w.heap.size w wr) (fun _ i _ => n - (intOf i).toNat)
      case atStart => exact ⟨0, Nat.zero_le _, rfl, val_int (by rw [atW_zero]; rfl), by rw [valsTo_zero, HX.out]; exact hown2, hbel2⟩
      case round =>
        obtain ⟨k, hk, rfl, rfl, hown, hbel⟩ := hrel
        clear hown2 hbel2
        have hatk := (atW_cast HO.out k (by rw [HX.out]; exact hk)).2
        by_cases hlt : k < n
        · obtain ⟨b, o, rfl, hb', hc⟩ := hx.at' (by omega)
          obtain ⟨hs, hw1, hw2, he⟩ := atW_succ HO.out k (by rw [HX.out]; exact hlt)
          have HS : Hid (atW ws (k + 1) = atW ws k + (eI ws k).toNat) := hs
          have hck : wr.cell? ⟨b, o + k, none⟩ = some (.int .i64 ((eI ws k).toNat : Int)) := by rw [← he]; exact (hbel.cell (p := ⟨b, o + k, none⟩) hb').trans (hc k hlt)
          have hmono := atW_mono HO.out (ws.length - (k + 1)) (k + 1) (by rw [HX.out]; omega)
          rw [show k + 1 + (ws.length - (k + 1)) = ws.length from by rw [HX.out]; omega, hs, HX.out] at hmono
          have hfit : atW ws k + (eI ws k).toNat ≤ 8 * m := by rw [HM.out]; omega
          have hcs : wr.cell? ⟨w.heap.size, k, none⟩ = some (.int .u64 (el (valsTo ws xs k) k)) := by
            rw [hown.cellAt k (by omega), vals64_get _ _ (by rw [valsTo_length, HX.out]; exact hlt)]
          have hfr : wr.frozen? ⟨w.heap.size, k, none⟩ = false := hown.frozenAt k
          have HV : Hid ((vals64 (valsTo ws xs k)).set k (.int .u64 ((getN xs (atW ws k) (eI ws k).toNat : Nat) : Int)) = vals64 (valsTo ws xs (k + 1))) := valsTo_set ws xs k
          clear hs he hc hmono
          generalize (eI ws k).toNat = W at *
          go_wp2_with (go_at_call 79; refine (getBits_any q m d xs (atW ws k) W _ (hy.below hbel) (by omega) hfit).mono ?_; rintro e w2 ⟨rfl, hw2'⟩; have hw3 := hw2'.symm; subst hw3; clear hw2')
          go_roundw
          case rel =>
            have hst := hown.stored k (.int .u64 ((getN xs (atW ws k) W : Nat) : Int))
            rw [HV.out] at hst
            exact ⟨k + 1, by omega, by go_num, val_int (by rw [HS.out]; rfl), hst.1, hbel.setCell (p := ⟨w.heap.size, k, none⟩) (Nat.le_refl _) _⟩
          case measure => simp [intOf]; omega
        · have hkn : k = n := by omega
          subst hkn
          have HT : Hid (tailN ws xs = getN xs (atW ws k) (8 * bytesW ws - atW ws k)) := by show _ = _; unfold tailN; rw [HX.out]
          go_wp2_with fail
          rw [show (8 * (bytesW ws : Int) - (atW ws k : Int)) = ((8 * bytesW ws - atW ws k : Nat) : Int) from by omega]
          refine (getBits_any q m d xs (atW ws k) (8 * bytesW ws - atW ws k) _ (hy.below hbel) htl.1 (by rw [HM.out]; omega)).mono ?_
          rintro e w2 ⟨rfl, hw2⟩
          subst hw2
          rw [← HT.out]
          by_cases ht : tailN ws xs = 0
          · have hb2 : ((tailN ws xs : Int) != 0) = false := by rw [ht]; rfl
            have E1 : Hid (unpackE ws xs = 0) := by show _ = _; unfold unpackE; rw [if_neg hnf, if_neg (by rw [HY.out, HM.out]; simp), if_neg (by rw [ht]; simp)]
            have E2 : Hid (unpackL ws xs = valsTo ws xs k) := by show _ = _; unfold unpackL; rw [if_pos E1.out, HX.out]
            clear ht
            go_wp2
            go_ret2
            obtain ⟨p', c', hv, hin⟩ := in64_of_owns hown (valsTo_lim HO.out xs k) (by omega)
            cases hv
            rw [E1.out, E2.out]
            exact ⟨_, _, _, rfl, hin, hbel, fun a h => by cases h; exact Nat.le_refl _⟩
          · have hb2 : ((tailN ws xs : Int) != 0) = true := by rw [bne_iff_ne]; omega
            have E1 : Hid (unpackE ws xs = 1) := by show _ = _; unfold unpackE; rw [if_neg hnf, if_neg (by rw [HY.out, HM.out]; simp), if_pos ht]
            have E2 : Hid (unpackL ws xs = []) := by show _ = _; unfold unpackL; rw [E1.out]; rfl
            clear ht
            go_wp2
            go_ret2
            rw [E1.out, E2.out]
            exact ⟨_, _, _, rfl, In64.empty _, hbel, fun a h => by cases h⟩
    · have hb1 : ((m : Int) != (bytesW ws : Int)) = true := by rw [bne_iff_ne]; omega
      have e1 : unpackE ws xs = 3 := by unfold unpackE; rw [if_neg hnf, if_pos (by rw [HY.out]; exact hm)]
      have e2 : unpackL ws xs = [] := by unfold unpackL; rw [e1]; rfl
      rw [e1, e2]
      have HO : Hid (widthOk ws = true) := hok
      clear e1 e2 hok hm
      go_enter Try.func76, Try.ntmps76
      go_wp2_with (go_at_call 67; refine (width_ok p n c ws w hx HO.out).mono ?_; rintro e w' ⟨rfl, hw'⟩; have hw2 := hw'.symm; subst hw2; clear hw')
      go_ret2
      exact ⟨_, _, _, rfl, In64.empty _, Below.refl _ _, fun a h => by cases h⟩
set_option linter.unusedSimpArgs false in
set_option maxHeartbeats 4000000 in
set_option maxRecDepth 100000 in
theorem take_fresh (p q : Option Addr) (n c m d : Nat) (ws : List Int) (xs : List Nat) (w : World) (hx : In w p n c xs) (hy : InI w q m d ws) (hok : widthOk ws = true) (hn : bytesW ws ≤ n) :
    Calls Try.prog 73 #[.slice p n c, .slice q m d] w fun e w' => ∃ p' n' c', e = .returned (.slice p' n' c') ∧ In64 w' p' n' c' (unpackL ws (xs.take (bytesW ws))) ∧ Below w.heap.size w w' ∧ ∀ a, p' = some a → w.heap.size ≤ a.block := by
  have hsl := slice_front p n c (bytesW ws) hn hx.cap
  have hf := hx.front (bytesW ws) hn
  have HW : Hid (widthOk ws = true) := hok
  have hr := hx.room
  clear hok
  go_enter Try.func73, Try.ntmps73
  go_wp2_with (first
      | (go_at_call 67; refine (width_ok q m d ws _ hy HW.out).mono ?_; rintro e w' ⟨rfl, hw'⟩; have hw2 := hw'.symm; subst hw2; clear hw')
      | (go_at_call 76; refine (unpack_fresh q p m d (bytesW ws) c ws (xs.take (bytesW ws)) _ hy hf).mono ?_; rintro e w2 ⟨p2, n2, c2, rfl, hin2, hb2, hfr2⟩))
  go_ret
  exact ⟨_, _, _, rfl, hin2, hb2, hfr2⟩
end Go.Proofs.Ytbimcdaplnmjdaa
