/-
  What seal.Mask answers.
-/
import Derived.Test.YthafcnilhloldaaBits
namespace Go.Proofs.Ythafcnilhloldaa
open Go.RowKit
/-- The first k bytes of xs with the mask's bits, the others as they are. -/
def maskTo (xs ms : List Nat) (k : Nat) : List Nat := xs.mapIdx fun i x => if i < k then x ||| ms.getD (i % ms.length) 0 else x
/-- xs with the bits of ms laid over it again and again. -/
def maskL (xs ms : List Nat) : List Nat := if ms.length = 0 then xs else xs.mapIdx fun i x => x ||| ms.getD (i % ms.length) 0
theorem maskTo_length (xs ms : List Nat) (k : Nat) : (maskTo xs ms k).length = xs.length := by simp [maskTo]
theorem maskTo_zero (xs ms : List Nat) : maskTo xs ms 0 = xs := by
  apply List.ext_getElem?; intro i; simp [maskTo]
theorem maskTo_all (xs ms : List Nat) (h : ms.length ≠ 0) : maskTo xs ms xs.length = maskL xs ms := by
  apply List.ext_getElem?
  intro i
  by_cases hi : i < xs.length
  · simp [maskTo, maskL, h, hi]
  · simp [maskTo, maskL, h, hi]
theorem maskTo_el (xs ms : List Nat) (k : Nat) (h : k < xs.length) : el (maskTo xs ms k) k = el xs k := by
  simp [maskTo, el, h]
theorem maskTo_set (xs ms : List Nat) (k : Nat) (h : k < xs.length) (hx : ∀ x ∈ xs, x < 256) (hm : ∀ x ∈ ms, x < 256) :
    (vals (maskTo xs ms k)).set k (.int .u8 (bits .or .u8 (el xs k) (el ms (k % ms.length)))) = vals (maskTo xs ms (k + 1)) := by
  have r1 := el_range hx k
  have r2 := el_range hm (k % ms.length)
  rw [u8_or _ _ r1.1 (by omega) r2.1 (by omega), el_toNat, el_toNat]
  apply List.ext_getElem?
  intro i
  rw [List.getElem?_set]
  by_cases hk : k = i
  · subst hk
    simp [vals, maskTo, h]
  · have e : (i < k) = (i < k + 1) := by apply propext; omega
    simp [vals, maskTo, hk, e]
theorem or_lt {a b : Nat} (ha : a < 256) (hb : b < 256) : a ||| b < 256 := Nat.or_lt_two_pow (n := 8) ha hb
theorem getD_lt {ms : List Nat} (hm : ∀ x ∈ ms, x < 256) (i : Nat) : ms.getD i 0 < 256 := by
  have := el_range hm i; unfold el at this; omega
theorem maskL_byte {xs ms : List Nat} (hx : ∀ x ∈ xs, x < 256) (hm : ∀ x ∈ ms, x < 256) : ∀ x ∈ maskL xs ms, x < 256 := by
  intro x hxm
  unfold maskL at hxm
  split at hxm
  · exact hx x hxm
  · obtain ⟨i, hi, rfl⟩ := List.mem_mapIdx.1 hxm
    exact or_lt (hx _ (List.getElem_mem _)) (getD_lt hm _)
theorem maskL_length (xs ms : List Nat) : (maskL xs ms).length = xs.length := by unfold maskL; split <;> simp
theorem maskL_getD (xs ms : List Nat) (i : Nat) : (maskL xs ms).getD i 0 = if ms.length = 0 ∨ xs.length ≤ i then xs.getD i 0 else xs.getD i 0 ||| ms.getD (i % ms.length) 0 := by
  unfold maskL
  by_cases h : ms.length = 0
  · simp [h]
  · by_cases hi : i < xs.length
    · have : ¬ xs.length ≤ i := by omega
      simp [h, hi, this]
    · have : xs.length ≤ i := by omega
      simp [h, hi, this]
theorem maskL_cov (xs ms : List Nat) (i : Nat) : cov1 ((maskL xs ms).getD i 0) (xs.getD i 0) = true := by
  rw [maskL_getD]
  split
  · exact cov1_refl _
  · exact cov1_or _ _
theorem mask_any (p q : Option Addr) (n c m d : Nat) (xs ms : List Nat) (w : World) (hx : In w p n c xs) (hm : In w q m d ms) :
    Calls Try.prog 55 #[.slice p n c, .slice q m d] w fun e w' => ∃ p' c', e = .returned (.slice p' n c') ∧ In w' p' n c' (maskL xs ms) ∧ Below w.heap.size w w' := by
  have hroom := hx.room
  have hroomm := hm.room
  have HX : Hid (xs.length = n) := hx.len
  have HM : Hid (ms.length = m) := hm.len
  have HT : Hid (xs.take n = xs) := List.take_of_length_le (by rw [HX.out]; exact Nat.le_refl _)
  obtain ⟨i0, hi, hz0, hz1, hz2⟩ := info_parts info5
  by_cases h0 : m = 0
  · have hm0 : ((m : Int) == 0) = true := by simp; omega
    go_enter Try.func55, Try.ntmps55
    go_wp2_with (at_make; refine wpList_make_full _ rfl _ _ 70 rfl w.heap.size 5 i0 (.int .u8 0) 1 Try.underlying70 hi hz0 hz1 .i64 .i64 _ _ n rfl rfl rfl rfl (by rw [hz2]; omega) (by unfold maxLen; omega) (Nat.le_refl _) ?_; intro w1 hown1 hgrow1; obtain ⟨w2, hcp, hown2, hbel2⟩ := copy_run (Nat.le_refl _) (made_block hown1) (below_grown0 hgrow1) (hx.below (below_grown0 hgrow1)) (Nat.le_refl n) (by unfold maxLen; omega))
    go_ret
    rw [HT.out] at hown2
    obtain ⟨p', c', hv, hin⟩ := in_of_owns hown2 hx.byte hroom
    have e : maskL xs ms = xs := by unfold maskL; rw [if_pos (by rw [HM.out]; exact h0)]
    rw [e]
    exact ⟨p', c', congrArg Ending.returned hv, hin, hbel2⟩
  · have hm0 : ((m : Int) == 0) = false := by simp; omega
    go_enter Try.func55, Try.ntmps55
    go_wp2_with (at_make; refine wpList_make_full _ rfl _ _ 70 rfl w.heap.size 5 i0 (.int .u8 0) 1 Try.underlying70 hi hz0 hz1 .i64 .i64 _ _ n rfl rfl rfl rfl (by rw [hz2]; omega) (by unfold maxLen; omega) (Nat.le_refl _) ?_; intro w1 hown1 hgrow1; obtain ⟨w2, hcp, hown2, hbel2⟩ := copy_run (Nat.le_refl _) (made_block hown1) (below_grown0 hgrow1) (hx.below (below_grown0 hgrow1)) (Nat.le_refl n) (by unfold maxLen; omega))
    clear hcp
    go_loopw [19] (fun i wr => ∃ k : Nat, k ≤ n ∧ i = .int .i64 k ∧ wr.ownsRow w.heap.size 5 1 (.slice (some ⟨w.heap.size, 0, none⟩) n n) n (vals (maskTo xs ms k)) ∧ Below w.heap.size w wr) (fun i _ => n - (intOf i).toNat)
    case atStart =>
      refine ⟨0, Nat.zero_le _, rfl, ?_, hbel2⟩
      rw [maskTo_zero]; rw [HT.out] at hown2; exact hown2
    case round =>
      obtain ⟨k, hk, rfl, hown, hbel⟩ := hrel
      clear hown1 hgrow1 hown2 hbel2
      by_cases hlt : k < n
      · have hc1 : wr.cell? ⟨w.heap.size, k, none⟩ = some (.int .u8 (el xs k)) := by
          rw [hown.cellAt k (by omega), vals_get _ _ (by rw [maskTo_length, HX.out]; exact hlt), maskTo_el _ _ _ (by rw [HX.out]; exact hlt)]
        have hf1 : wr.frozen? ⟨w.heap.size, k, none⟩ = false := hown.frozenAt k
        obtain ⟨b, o, rfl, hb, hc⟩ := hm.at' (by omega)
        have hc2 : wr.cell? ⟨b, o + k % m, none⟩ = some (.int .u8 (el ms (k % m))) := (hbel.cell (p := ⟨b, o + k % m, none⟩) hb).trans (hc (k % m) (Nat.mod_lt _ (by omega)))
        have hmod : k % m < m := Nat.mod_lt _ (by omega)
        clear hc
        go_wp2
        go_region
        all_goals (try go_wp2)
        all_goals
          go_roundw
          case rel =>
            have hst := hown.stored k (.int .u8 (bits .or .u8 (el xs k) (el ms (k % m))))
            have hset := maskTo_set xs ms k (by rw [HX.out]; exact hlt) hx.byte hm.byte
            rw [HM.out] at hset
            rw [hset] at hst
            exact ⟨k + 1, by omega, by go_num, hst.1.drew, (hbel.setCell (p := ⟨w.heap.size, k, none⟩) (Nat.le_refl _) _).drew⟩
          case measure => simp [intOf]; omega
      · go_wp2
        go_ret
        have hkn : k = xs.length := by have := HX.out; omega
        rw [hkn, maskTo_all xs ms (by rw [HM.out]; exact h0)] at hown
        obtain ⟨p', c', hv, hin⟩ := in_of_owns hown (maskL_byte hx.byte hm.byte) hroom
        exact ⟨p', c', congrArg Ending.returned hv, hin, hbel⟩
end Go.Proofs.Ythafcnilhloldaa
