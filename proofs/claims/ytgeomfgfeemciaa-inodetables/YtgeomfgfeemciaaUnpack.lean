/-
  What seal.Unpack and slices.Equal answer.
-/
import Derived.Test.YtgeomfgfeemciaaGetBits
namespace Go.Proofs.Ytgeomfgfeemciaa
open Go.RowKit
theorem info64 : (Try.prog.info? 54).map (fun i => (i.zero, i.size, i.bytes)) = some (some (.int .u64 0), 1, 8) := by kernel_rfl
def vals64 (xs : List Nat) : List Value := xs.map fun x : Nat => Value.int .u64 (x : Int)
theorem vals64_length (xs : List Nat) : (vals64 xs).length = xs.length := by simp [vals64]
theorem vals64_append (a b : List Nat) : vals64 (a ++ b) = vals64 a ++ vals64 b := by simp [vals64]
theorem vals64_one (xs : List Nat) : ∀ u ∈ vals64 xs, u.oneCell' = true := by
  intro u hu
  obtain ⟨x, _, rfl⟩ := List.mem_map.1 hu
  rfl
theorem vals64_get (xs : List Nat) (j : Nat) (h : j < xs.length) : (vals64 xs)[j]? = some (.int .u64 (el xs j)) := by
  simp [vals64, el, h]
theorem In64.empty (w : World) : In64 w none 0 0 [] := ⟨rfl, Nat.le_refl _, Nat.zero_le _, Nat.zero_le _, fun _ h => by simp at h, fun h => by omega⟩
theorem in64_of_owns {w : World} {B : Nat} {v : Value} {n : Nat} {xs : List Nat} (h : w.ownsRow B 54 1 v n (vals64 xs)) (hb : ∀ x ∈ xs, x < 18446744073709551616) (hr : n ≤ 140737488355328) :
    ∃ p c, v = .slice p n c ∧ In64 w p n c xs := by
  have hl : xs.length = n := by have := h.1; simpa [vals64] using this
  rcases h.2 with ⟨rfl, rfl⟩ | ⟨g, cap, cur, rfl, hg, hh, hnc, hcm, hsz, htk⟩
  · have : xs = [] := List.eq_nil_of_length_eq_zero hl
    subst this
    exact ⟨none, 0, rfl, In64.empty w⟩
  · refine ⟨some ⟨g, 0, none⟩, cap, rfl, hl, hnc, hcm, hr, hb, fun h0 => ⟨g, 0, rfl, ?_, fun i hi => ?_⟩⟩
    · rcases Nat.lt_or_ge g w.heap.size with h' | h'
      · exact h'
      · rw [Array.getElem?_eq_none h'] at hh; simp at hh
    · have := World.ownsRow.cellAt h i (by omega)
      rw [Nat.zero_add, this, vals64_get xs i (by omega)]
/-- The first k of the values that stand in xs; the others are 0. -/
def valsTo (ws : List Int) (xs : List Nat) (k : Nat) : List Nat := (List.range ws.length).map fun i => if i < k then getN xs (atW ws i) (eI ws i).toNat else 0
theorem valsTo_length (ws : List Int) (xs : List Nat) (k : Nat) : (valsTo ws xs k).length = ws.length := by simp [valsTo]
theorem valsTo_set (ws : List Int) (xs : List Nat) (k : Nat) : (vals64 (valsTo ws xs k)).set k (.int .u64 ((getN xs (atW ws k) (eI ws k).toNat : Nat) : Int)) = vals64 (valsTo ws xs (k + 1)) := by
  apply List.ext_getElem?
  intro i
  rw [List.getElem?_set]
  by_cases hk : k = i
  · subst hk
    by_cases hl : k < ws.length
    · simp [vals64, valsTo, hl]
    · simp [vals64, valsTo, hl]
  · have e : (i < k) = (i < k + 1) := by apply propext; omega
    by_cases hl : i < ws.length
    · simp [vals64, valsTo, hk, hl, e]
    · simp [vals64, valsTo, hk, hl]
theorem valsTo_zero (ws : List Int) (xs : List Nat) : valsTo ws xs 0 = List.replicate ws.length 0 := by
  apply List.ext_getElem?
  intro i
  by_cases hl : i < ws.length <;> simp [valsTo, hl]
theorem made64 {w : World} {B g n : Nat} (h : w.ownsRow B 54 1 (.slice (some ⟨g, 0, none⟩) n n) n (madeCells (Value.int .u64 0).cells (n * 1)).toList) :
    w.ownsRow B 54 1 (.slice (some ⟨g, 0, none⟩) n n) n (vals64 (List.replicate n 0)) := by
  rwa [show (Value.int .u64 0).cells = #[Value.int .u64 0] from rfl, toList_madeCells_one, Nat.mul_one, show List.replicate n (Value.int .u64 0) = vals64 (List.replicate n 0) from by simp [vals64]] at h
/-- The bits behind the last value, as a number. -/
def tailN (ws : List Int) (xs : List Nat) : Nat := getN xs (atW ws ws.length) (8 * bytesW ws - atW ws ws.length)
/-- 1 is ErrArg, 3 is ErrLong. -/
def unpackE (ws : List Int) (xs : List Nat) : Int := if widthOk ws = false then 1 else if xs.length ≠ bytesW ws then 3 else if tailN ws xs ≠ 0 then 1 else 0
def unpackL (ws : List Int) (xs : List Nat) : List Nat := if unpackE ws xs = 0 then valsTo ws xs ws.length else []
theorem valsTo_lim {ws : List Int} (h : widthOk ws = true) (xs : List Nat) (k : Nat) : ∀ x ∈ valsTo ws xs k, x < 18446744073709551616 := by
  intro x hx
  obtain ⟨i, hi, rfl⟩ := List.mem_map.1 hx
  have hi' : i < ws.length := by simpa using hi
  split
  · exact getN_64 _ _ _ (atW_succ h i hi').2.2.1
  · decide
theorem unpack_any (p q : Option Addr) (n c m d : Nat) (ws : List Int) (xs : List Nat) (w : World) (hx : InI w p n c ws) (hy : In w q m d xs) :
    Calls Try.prog 51 #[.slice p n c, .slice q m d] w fun e w' => ∃ p' n' c', e = .returned (.tuple #[.slice p' n' c', .int .i64 (unpackE ws xs)]) ∧ In64 w' p' n' c' (unpackL ws xs) ∧ Below w.heap.size w w' := by
  have hroom := hx.room
  have hroomm := hy.room
  have HX : Hid (ws.length = n) := hx.len
  have HY : Hid (xs.length = m) := hy.len
  obtain ⟨i0, hi, hz0, hz1, hz2⟩ := info_parts info64
  cases hok : widthOk ws with
  | false =>
    have e1 : unpackE ws xs = 1 := by unfold unpackE; rw [if_pos hok]
    have e2 : unpackL ws xs = [] := by unfold unpackL; rw [e1]; rfl
    rw [e1, e2]
    have HO : Hid (widthOk ws = false) := hok
    clear e1 e2 hok
    go_enter Try.func51, Try.ntmps51
    go_wp2_with (go_at_call 47; refine (width_no p n c ws w hx HO.out).mono ?_; rintro e w' ⟨rfl, hw'⟩; have hw2 := hw'.symm; subst hw2; clear hw')
    go_ret2
    exact ⟨_, _, _, rfl, In64.empty _, Below.refl _ _⟩
  | true =>
    have hN := (widthN_ok hok).2
    have hl64 := widthOk_len hok
    rw [HX.out] at hl64
    have hnf : ¬ widthOk ws = false := by rw [hok]; simp
    by_cases hm : m = bytesW ws
    · have hb1 : ((m : Int) != (bytesW ws : Int)) = false := by rw [hm]; simp
      have hat := atW_cast hok ws.length (Nat.le_refl _)
      rw [HX.out] at hat
      have htl : 8 * bytesW ws - atW ws n ≤ 64 ∧ atW ws n ≤ 8 * bytesW ws := by
        unfold bytesW; rw [HX.out]; omega
      have HO : Hid (widthOk ws = true) := hok
      have HM : Hid (m = bytesW ws) := hm
      clear hok hm
      go_enter Try.func51, Try.ntmps51
      go_wp2_with (first
        | (go_at_call 47; refine (width_ok p n c ws w hx HO.out).mono ?_; rintro e w' ⟨rfl, hw'⟩; have hw2 := hw'.symm; subst hw2; clear hw')
        | (at_make; refine wpList_make_full _ rfl _ _ 59 rfl w.heap.size 54 i0 (.int .u64 0) 1 Try.underlying59 hi hz0 hz1 .i64 .i64 _ _ n rfl rfl rfl rfl (by rw [hz2]; omega) (by unfold maxLen; omega) (Nat.le_refl _) ?_; intro w1 hown1 hgrow1))
      have hown2 := made64 hown1
      have hbel2 := below_grown0 hgrow1
      clear hown1 hgrow1
      go_loopw [9, 29] (fun a i wr => ∃ k : Nat, k ≤ n ∧ i = .int .i64 k ∧ a = .int .i64 (atW ws k) ∧ wr.ownsRow w.heap.size 54 1 (.slice (some ⟨w.heap.size, 0, none⟩) n n) n (vals64 (valsTo ws xs k)) ∧ Below w.heap.size w wr) (fun _ i _ => n - (intOf i).toNat)
      case atStart => exact ⟨0, Nat.zero_le _, rfl, val_int (by rw [atW_zero]; rfl), by rw [valsTo_zero, HX.out]; exact hown2, hbel2⟩
      case round =>
        obtain ⟨k, hk, rfl, rfl, hown, hbel⟩ := hrel
        clear hown2 hbel2
        have hatk := (atW_cast HO.out k (by rw [HX.out]; exact hk)).2
        by_cases hlt : k < n
        · obtain ⟨b, o, rfl, hb', hc⟩ := hx.at' (by omega)
          obtain ⟨hs, hw1, hw2, he⟩ := atW_succ HO.out k (by rw [HX.out]; exact hlt)
          have HS : Hid (atW ws (k + 1) = atW ws k + (eI ws k).toNat) := hs
          have hck : wr.cell? ⟨b, o + k, none⟩ = some (.int .i64 ((eI ws k).toNat : Int)) := by rw [← he]; exact (hbel.cell (p := ⟨b, o + k, none⟩) hb').trans (hc k hlt)
          have hmono := atW_mono HO.out (ws.length - (k + 1)) (k + 1) (by rw [HX.out]; omega)
          rw [show k + 1 + (ws.length - (k + 1)) = ws.length from by rw [HX.out]; omega, hs, HX.out] at hmono
          have hfit : atW ws k + (eI ws k).toNat ≤ 8 * m := by rw [HM.out]; omega
          have hcs : wr.cell? ⟨w.heap.size, k, none⟩ = some (.int .u64 (el (valsTo ws xs k) k)) := by
            rw [hown.cellAt k (by omega), vals64_get _ _ (by rw [valsTo_length, HX.out]; exact hlt)]
          have hfr : wr.frozen? ⟨w.heap.size, k, none⟩ = false := hown.frozenAt k
          have HV : Hid ((vals64 (valsTo ws xs k)).set k (.int .u64 ((getN xs (atW ws k) (eI ws k).toNat : Nat) : Int)) = vals64 (valsTo ws xs (k + 1))) := valsTo_set ws xs k
          clear hs he hc hmono
          generalize (eI ws k).toNat = W at *
          go_wp2_with (go_at_call 57; refine (getBits_any q m d xs (atW ws k) W _ (hy.below hbel) (by omega) hfit).mono ?_; rintro e w2 ⟨rfl, hw2'⟩; have hw3 := hw2'.symm; subst hw3; clear hw2')
          go_roundw
          case rel =>
            have hst := hown.stored k (.int .u64 ((getN xs (atW ws k) W : Nat) : Int))
            rw [HV.out] at hst
            exact ⟨k + 1, by omega, by go_num, val_int (by rw [HS.out]; rfl), hst.1, hbel.setCell (p := ⟨w.heap.size, k, none⟩) (Nat.le_refl _) _⟩
          case measure => simp [intOf]; omega
        · have hkn : k = n := by omega
          subst hkn
          have HT : Hid (tailN ws xs = getN xs (atW ws k) (8 * bytesW ws - atW ws k)) := by show _ = _; unfold tailN; rw [HX.out]
          go_wp2_with fail
          rw [show (8 * (bytesW ws : Int) - (atW ws k : Int)) = ((8 * bytesW ws - atW ws k : Nat) : Int) from by omega]
          refine (getBits_any q m d xs (atW ws k) (8 * bytesW ws - atW ws k) _ (hy.below hbel) htl.1 (by rw [HM.out]; omega)).mono ?_
          rintro e w2 ⟨rfl, hw2⟩
          subst hw2
          rw [← HT.out]
          by_cases ht : tailN ws xs = 0
          · have hb2 : ((tailN ws xs : Int) != 0) = false := by rw [ht]; rfl
            have E1 : Hid (unpackE ws xs = 0) := by show _ = _; unfold unpackE; rw [if_neg hnf, if_neg (by rw [HY.out, HM.out]; simp), if_neg (by rw [ht]; simp)]
            have E2 : Hid (unpackL ws xs = valsTo ws xs k) := by show _ = _; unfold unpackL; rw [if_pos E1.out, HX.out]
            clear ht
            go_wp2
            go_ret2
            obtain ⟨p', c', hv, hin⟩ := in64_of_owns hown (valsTo_lim HO.out xs k) (by omega)
            cases hv
            rw [E1.out, E2.out]
            exact ⟨_, _, _, rfl, hin, hbel⟩
          · have hb2 : ((tailN ws xs : Int) != 0) = true := by rw [bne_iff_ne]; omega
            have E1 : Hid (unpackE ws xs = 1) := by show _ = _; unfold unpackE; rw [if_neg hnf, if_neg (by rw [HY.out, HM.out]; simp), if_pos ht]
            have E2 : Hid (unpackL ws xs = []) := by show _ = _; unfold unpackL; rw [E1.out]; rfl
            clear ht
            go_wp2
            go_ret2
            rw [E1.out, E2.out]
            exact ⟨_, _, _, rfl, In64.empty _, hbel⟩
    · have hb1 : ((m : Int) != (bytesW ws : Int)) = true := by rw [bne_iff_ne]; omega
      have e1 : unpackE ws xs = 3 := by unfold unpackE; rw [if_neg hnf, if_pos (by rw [HY.out]; exact hm)]
      have e2 : unpackL ws xs = [] := by unfold unpackL; rw [e1]; rfl
      rw [e1, e2]
      have HO : Hid (widthOk ws = true) := hok
      clear e1 e2 hok hm
      go_enter Try.func51, Try.ntmps51
      go_wp2_with (go_at_call 47; refine (width_ok p n c ws w hx HO.out).mono ?_; rintro e w' ⟨rfl, hw'⟩; have hw2 := hw'.symm; subst hw2; clear hw')
      go_ret2
      exact ⟨_, _, _, rfl, In64.empty _, Below.refl _ _⟩
theorem eq_list (xs ys : List Nat) (hl : xs.length = ys.length) (h : ∀ i, i < xs.length → xs.getD i 0 = ys.getD i 0) : xs = ys := by
  apply List.ext_getElem hl
  intro i h1 h2
  have := h i h1
  simpa [h1, h2] using this
end Go.Proofs.Ytgeomfgfeemciaa
