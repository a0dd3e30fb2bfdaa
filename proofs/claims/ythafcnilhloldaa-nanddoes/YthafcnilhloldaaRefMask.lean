/-
  What slipwayref01's Mask and Covers, and bytes.Clone, answer.
-/
import Derived.Test.YthafcnilhloldaaMask
namespace Go.Proofs.Ythafcnilhloldaa
open Go.RowKit
theorem vals_snoc (L : List Nat) (k : Nat) (h : k < L.length) : vals (L.take k) ++ [.int .u8 (el L k)] = vals (L.take (k + 1)) := by
  rw [take_succ_getD L k h, vals_append]; rfl
theorem maskL_el (xs ms : List Nat) (k : Nat) (hk : k < xs.length) (hm : ms.length ≠ 0) (hx : ∀ x ∈ xs, x < 256) (hms : ∀ x ∈ ms, x < 256) :
    el (maskL xs ms) k = bits .or .u8 (el xs k) (el ms (k % ms.length)) := by
  have r1 := el_range hx k
  have r2 := el_range hms (k % ms.length)
  rw [u8_or _ _ r1.1 (by omega) r2.1 (by omega), el_toNat, el_toNat]
  have := maskL_getD xs ms k
  rw [if_neg (by omega)] at this
  unfold el; rw [this]
theorem maskL_el0 (xs ms : List Nat) (k : Nat) (hm : ms.length = 0) : el (maskL xs ms) k = el xs k := by
  unfold maskL; rw [if_pos hm]
theorem one_cell_at (w : World) (X : Value) : ∀ j u, [X][j]? = some u → (w.alloc (.cells #[X] 5)).cell? ((⟨w.heap.size, 0, none⟩ : Addr).add j) = some u := by
  intro j u hj
  match j, hj with
  | 0, hj => simp at hj; subst hj; simp [Addr.add]
theorem below_app {B : Nat} {w0 wr w1 : World} {o : Obj} {v : Value} {n : Nat} {e : TypeId} {xs : List Value} (hbel : Below B w0 wr) (hB : B ≤ w0.heap.size) (hown : wr.ownsRow B e 1 v n xs) (hg : (wr.alloc o).grownBy w1 v.ownBlock) : Below B w0 w1 := by
  have hs := hbel.size
  refine (hbel.alloc (by omega) o).grown hg (by simp; omega) fun k hk => ?_
  rcases hown.2 with ⟨rfl, _⟩ | ⟨g, cap, cur, rfl, hg, _⟩
  · simp [Value.ownBlock] at hk
  · simp only [Value.ownBlock, Option.some.injEq] at hk
    omega
set_option maxRecDepth 100000 in
theorem refMask_any (p q : Option Addr) (n c m d : Nat) (xs ms : List Nat) (w : World) (hx : In w p n c xs) (hm : In w q m d ms) :
    Calls Try.prog 62 #[.slice p n c, .slice q m d] w fun e w' => ∃ p' c', e = .returned (.slice p' n c') ∧ In w' p' n c' (maskL xs ms) ∧ Below w.heap.size w w' := by
  have hroom := hx.room
  have hroomm := hm.room
  have HX : Hid (xs.length = n) := hx.len
  have HM : Hid (ms.length = m) := hm.len
  have HL : Hid ((maskL xs ms).length = n) := by show _ = _; rw [maskL_length]; exact hx.len
  obtain ⟨i0, hi, hz0, hz1, hz2⟩ := info_parts info5
  go_enter Try.func62, Try.ntmps62
  go_wp2
  go_loopw [5, 6] (fun v i wr => ∃ k : Nat, k ≤ n ∧ i = .int .i64 k ∧ wr.ownsRow w.heap.size 5 1 v k (vals ((maskL xs ms).take k)) ∧ Below w.heap.size w wr) (fun _ i _ => n - (intOf i).toNat)
  case atStart => exact ⟨0, Nat.zero_le _, rfl, World.ownsRow_nil _ _ _ _, Below.refl _ _⟩
  case round =>
    obtain ⟨k, hk, rfl, hown, hbel⟩ := hrel
    by_cases hlt : k < n
    · obtain ⟨b, o, rfl, hb, hc⟩ := hx.at' (by omega)
      have hc1 : wr.cell? ⟨b, o + k, none⟩ = some (.int .u8 (el xs k)) := (hbel.cell (p := ⟨b, o + k, none⟩) hb).trans (hc k hlt)
      clear hc
      by_cases h0 : m = 0
      · have hd : ¬ (0 : Int) < (m : Int) := by omega
        have HE : Hid (el (maskL xs ms) k = el xs k) := maskL_el0 xs ms k (by rw [HM.out]; exact h0)
        clear h0
        go_wp2_with (at_builtin; refine wpList_append_own _ rfl (.tmp 30) (.tmp 32) 70 rfl w.heap.size 5 i0 (.int .u8 0) 1 1 Try.underlying70 hi hz0 hz1 hz2 rfl (by decide) _ _ _ rfl (hown.alloc _) ⟨wr.heap.size, 0, none⟩ 1 1 [.int .u8 (el xs k)] rfl rfl (one_cell_at _ _) (by intro u hu; simp at hu; subst hu; rfl) (by unfold maxLen; omega) (by omega) (by have := hbel.size; simp; omega) ?_; intro v1 w1 hown1 hgrow1 _)
        have hb1 := below_app hbel (Nat.le_refl _) hown hgrow1
        rw [← HE.out, vals_snoc _ _ (by rw [HL.out]; exact hlt)] at hown1
        clear hgrow1 hown
        go_roundw
        case rel => exact ⟨k + 1, by omega, by go_num, hown1, hb1⟩
        case measure => simp [intOf]; omega
      · have hd : (0 : Int) < (m : Int) := by omega
        obtain ⟨b', o', rfl, hb', hc'⟩ := hm.at' (by omega)
        have hmod : k % m < m := Nat.mod_lt _ (by omega)
        have hc2 : wr.cell? ⟨b', o' + k % m, none⟩ = some (.int .u8 (el ms (k % m))) := (hbel.cell (p := ⟨b', o' + k % m, none⟩) hb').trans (hc' (k % m) hmod)
        have HE : Hid (el (maskL xs ms) k = bits .or .u8 (el xs k) (el ms (k % m))) := by
          have := maskL_el xs ms k (by rw [HX.out]; exact hlt) (by rw [HM.out]; exact h0) hx.byte hm.byte
          rw [HM.out] at this; exact this
        clear hc'
        go_wp2_with (at_builtin; refine wpList_append_own _ rfl (.tmp 30) (.tmp 32) 70 rfl w.heap.size 5 i0 (.int .u8 0) 1 1 Try.underlying70 hi hz0 hz1 hz2 rfl (by decide) _ _ _ rfl (hown.alloc _) ⟨wr.heap.size, 0, none⟩ 1 1 [.int .u8 (bits .or .u8 (el xs k) (el ms (k % m)))] rfl rfl (one_cell_at _ _) (by intro u hu; simp at hu; subst hu; rfl) (by unfold maxLen; omega) (by omega) (by have := hbel.size; simp; omega) ?_; intro v1 w1 hown1 hgrow1 _)
        have hb1 := below_app hbel (Nat.le_refl _) hown hgrow1
        rw [← HE.out, vals_snoc _ _ (by rw [HL.out]; exact hlt)] at hown1
        clear hgrow1 hown
        go_roundw
        case rel => exact ⟨k + 1, by omega, by go_num, hown1, hb1⟩
        case measure => simp [intOf]; omega
    · have hkn : k = n := by omega
      subst hkn
      rw [List.take_of_length_le (by rw [HL.out]; exact Nat.le_refl _)] at hown
      go_wp2
      go_ret
      obtain ⟨p', c', hv, hin⟩ := in_of_owns hown (maskL_byte hx.byte hm.byte) hroom
      exact ⟨p', c', congrArg Ending.returned hv, hin, hbel⟩
end Go.Proofs.Ythafcnilhloldaa
