/-
  What the reference's Blank answers.
-/
import Derived.Test.YthafcnilhloldaaNBlank
namespace Go.Proofs.Ythafcnilhloldaa
open Go.RowKit
set_option maxRecDepth 100000 in
theorem rblank_any (w : World) : Calls Try.prog 30 #[] w fun e w' => e = .returned (.agg (vals (fillP 255)).toArray) ∧ Below w.heap.size w w' := by
  have hz := zeroPage
  go_enter Try.func30, Try.ntmps30
  go_wp2
  have b0 : Blk ((w.alloc (.cells (vals (fillP 0)).toArray 46)).alloc (.cells (vals (fillP 0)).toArray 46)) (w.heap.size + 1) 46 (vals (partP 255 0)) := by
    rw [partP_none]; have := Blk.new (w.alloc (.cells (vals (fillP 0)).toArray 46)) 46 (vals (fillP 0)); rwa [World.size_alloc] at this
  have b1 : Blk ((w.alloc (.cells (vals (fillP 0)).toArray 46)).alloc (.cells (vals (fillP 0)).toArray 46)) w.heap.size 46 (vals (fillP 0)) := (Blk.new w 46 _).alloc _
  go_loopw [2] (fun i wr => ∃ k : Nat, k ≤ 256 ∧ i = .int .i64 k ∧ Blk wr (w.heap.size + 1) 46 (vals (partP 255 k)) ∧ Blk wr w.heap.size 46 (vals (fillP 0)) ∧ Below w.heap.size w wr) (fun i _ => 256 - (intOf i).toNat)
  case atStart => exact ⟨0, by omega, rfl, b0, b1, (below_alloc w _).alloc (by simp) _⟩
  case round =>
    clear b0 b1
    obtain ⟨k, hk, rfl, h0, h1, hb⟩ := hrel
    by_cases hlt : k < 256
    · obtain ⟨u, hu⟩ := partP_get 255 k k (by omega) (by omega)
      have hc := h0.cell' hu
      have hf := h0.frozen k
      go_wp2
      go_roundw
      case rel => exact ⟨k + 1, by omega, by go_num, blk_part h0 (by omega) cast255.symm, h1.setOther _ _ (by simp), hb.setCell (by simp) _⟩
      case measure => simp [intOf]; omega
    · obtain rfl : k = 256 := by omega
      go_wp2
      clear hk hlt
      go_loopw [3] (fun i wr => ∃ k : Nat, k ≤ 32 ∧ i = .int .i64 k ∧ Blk wr (w.heap.size + 1) 46 (vals (partP 255 (256 + k))) ∧ Blk wr w.heap.size 46 (vals (fillP 0)) ∧ Below w.heap.size w wr) (fun i _ => 32 - (intOf i).toNat)
      case atStart => exact ⟨0, by omega, rfl, h0, h1, hb⟩
      case round =>
        clear h0 h1 hb
        obtain ⟨k, hk, rfl, h0, h1, hb⟩ := hrel
        by_cases hlt : k < 32
        · obtain ⟨u, hu⟩ := partP_get 255 (256 + k) (256 + k) (by omega) (by omega)
          have hc := h0.cell' hu
          have hf := h0.frozen (256 + k)
          go_wp2
          go_roundw
          case rel => exact ⟨k + 1, by omega, by go_num, blk_part h0 (by omega) cast255.symm, h1.setOther _ _ (by simp), hb.setCell (by simp) _⟩
          case measure => simp [intOf]; omega
        · obtain rfl : k = 32 := by omega
          rw [show 256 + 32 = 288 from rfl, partP_all] at h0
          go_wp2_with (first
            | (refine wpList_load_mid rfl 46 (.tmp 1) rfl _ _ rfl (vals (fillP 255)) _ (h0.range 0 288 _ (by rw [List.drop_zero, List.take_of_length_le (by rw [vals_length, fillP_length]; exact Nat.le_refl _)])) Try.underlying46 rfl sizePage ?_)
            | (refine wpList_store_blk rfl 46 (.tmp 0) (.tmp 18) rfl _ _ (vals (fillP 255)) rfl rfl h1 (by rw [vals_length, vals_length, fillP_length, fillP_length]; exact Nat.le_refl _) sizePage (vals_one _) ?_; intro w2 h2 ht2))
          rw [whole_row (by rw [vals_length, vals_length, fillP_length, fillP_length])] at h2
          exact ret_page Try.results30 rfl h2 (fillP_length _) rfl ⟨rfl, ht2.below hb (Nat.le_refl _)⟩
end Go.Proofs.Ythafcnilhloldaa
