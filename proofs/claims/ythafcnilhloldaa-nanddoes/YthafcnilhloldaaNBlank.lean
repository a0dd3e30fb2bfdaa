/-
  What blank and page answer: a page of one byte.
-/
import Derived.Test.YthafcnilhloldaaNCells
namespace Go.Proofs.Ythafcnilhloldaa
open Go.RowKit
/-- A page of which the first k bytes are b, the others 0. -/
def partP (b k : Nat) : List Nat := List.replicate k b ++ List.replicate (288 - k) 0
theorem partP_length (b k : Nat) (h : k ≤ 288) : (partP b k).length = 288 := by
  rw [partP, List.length_append, List.length_replicate, List.length_replicate]; omega
theorem partP_all (b : Nat) : partP b 288 = fillP b := by rw [partP, fillP, Nat.sub_self, List.replicate_zero, List.append_nil]
theorem partP_none (b : Nat) : partP b 0 = fillP 0 := by rw [partP, fillP, List.replicate_zero, List.nil_append, Nat.sub_zero]
theorem partP_set (b k : Nat) (h : k < 288) : (vals (partP b k)).set k (.int .u8 (b : Int)) = vals (partP b (k + 1)) := by
  obtain ⟨m, hm⟩ : ∃ m, 288 - k = m + 1 := ⟨287 - k, by omega⟩
  have hm' : 288 - (k + 1) = m := by omega
  rw [partP, partP, hm, hm', List.replicate_succ' (n := k), List.replicate_succ (n := m), vals_append, vals_append, vals_append, List.append_assoc, List.set_append_right _ _ (by rw [vals_length, List.length_replicate]; exact Nat.le_refl _), vals_length, List.length_replicate, Nat.sub_self]
  rfl
theorem cast255 : ((255 : Nat) : Int) = 255 := by decide
theorem blk_part {w : World} {g b k : Nat} {t : TypeId} {x : Int} (h : Blk w g t (vals (partP b k))) (hk : k < 288) (hx : x = (b : Int)) : Blk (w.setCell ⟨g, k, none⟩ (.int .u8 x)) g t (vals (partP b (k + 1))) := by
  subst hx
  rw [← partP_set b k hk]
  exact h.set k _
theorem partP_get (b k i : Nat) (h : k ≤ 288) (hi : i < 288) : ∃ u, (vals (partP b k))[i]? = some u := by
  have := vals_get (partP b k) i (by rw [partP_length b k h]; exact hi)
  exact ⟨_, this⟩
set_option maxRecDepth 100000 in
theorem blank_any (w : World) : Calls Try.prog 54 #[] w fun e w' => e = .returned (.agg (vals (fillP 255)).toArray) ∧ Below w.heap.size w w' := by
  have hz := zeroPage
  go_enter Try.func54, Try.ntmps54
  go_wp2
  have b0 : Blk ((w.alloc (.cells (vals (fillP 0)).toArray 46)).alloc (.cells (vals (fillP 0)).toArray 46)) (w.heap.size + 1) 46 (vals (partP 255 0)) := by
    rw [partP_none]; have := Blk.new (w.alloc (.cells (vals (fillP 0)).toArray 46)) 46 (vals (fillP 0)); rwa [World.size_alloc] at this
  have b1 : Blk ((w.alloc (.cells (vals (fillP 0)).toArray 46)).alloc (.cells (vals (fillP 0)).toArray 46)) w.heap.size 46 (vals (fillP 0)) := (Blk.new w 46 _).alloc _
  go_loopw [4] (fun i wr => ∃ k : Nat, k ≤ 256 ∧ i = .int .i64 k ∧ Blk wr (w.heap.size + 1) 46 (vals (partP 255 k)) ∧ Blk wr w.heap.size 46 (vals (fillP 0)) ∧ Below w.heap.size w wr) (fun i _ => 256 - (intOf i).toNat)
  case atStart => exact ⟨0, by omega, rfl, b0, b1, (below_alloc w _).alloc (by simp) _⟩
  case round =>
    clear b0 b1
    obtain ⟨k, hk, rfl, h0, h1, hb⟩ := hrel
    by_cases hlt : k < 256
    · obtain ⟨u, hu⟩ := partP_get 255 k k (by omega) (by omega)
      have hc := h0.cell' hu
      have hf := h0.frozen k
      go_wp2
      go_roundw
      case rel => exact ⟨k + 1, by omega, by go_num, blk_part h0 (by omega) cast255.symm, h1.setOther _ _ (by simp), hb.setCell (by simp) _⟩
      case measure => simp [intOf]; omega
    · obtain rfl : k = 256 := by omega
      go_wp2
      clear hk hlt
      go_loopw [11] (fun i wr => ∃ k : Nat, k ≤ 32 ∧ i = .int .i64 k ∧ Blk wr (w.heap.size + 1) 46 (vals (partP 255 (256 + k))) ∧ Blk wr w.heap.size 46 (vals (fillP 0)) ∧ Below w.heap.size w wr) (fun i _ => 32 - (intOf i).toNat)
      case atStart => exact ⟨0, by omega, rfl, h0, h1, hb⟩
      case round =>
        clear h0 h1 hb
        obtain ⟨k, hk, rfl, h0, h1, hb⟩ := hrel
        by_cases hlt : k < 32
        · obtain ⟨u, hu⟩ := partP_get 255 (256 + k) (256 + k) (by omega) (by omega)
          have hc := h0.cell' hu
          have hf := h0.frozen (256 + k)
          go_wp2
          go_roundw
          case rel => exact ⟨k + 1, by omega, by go_num, blk_part h0 (by omega) cast255.symm, h1.setOther _ _ (by simp), hb.setCell (by simp) _⟩
          case measure => simp [intOf]; omega
        · obtain rfl : k = 32 := by omega
          rw [show 256 + 32 = 288 from rfl, partP_all] at h0
          go_wp2_with (first
            | (refine wpList_load_mid rfl 46 (.tmp 1) rfl _ _ rfl (vals (fillP 255)) _ (h0.range 0 288 _ (by rw [List.drop_zero, List.take_of_length_le (by rw [vals_length, fillP_length]; exact Nat.le_refl _)])) Try.underlying46 rfl sizePage ?_)
            | (refine wpList_store_blk rfl 46 (.tmp 0) (.tmp 18) rfl _ _ (vals (fillP 255)) rfl rfl h1 (by rw [vals_length, vals_length, fillP_length, fillP_length]; exact Nat.le_refl _) sizePage (vals_one _) ?_; intro w2 h2 ht2))
          rw [whole_row (by rw [vals_length, vals_length, fillP_length, fillP_length])] at h2
          exact ret_page Try.results54 rfl h2 (fillP_length _) rfl ⟨rfl, ht2.below hb (Nat.le_refl _)⟩
set_option maxRecDepth 100000 in
theorem page_any (b : Nat) (w : World) : Calls Try.prog 17 #[.int .u8 (b : Int)] w fun e w' => e = .returned (.agg (vals (fillP b)).toArray) ∧ Below w.heap.size w w' := by
  have hz := zeroPage
  go_enter Try.func17, Try.ntmps17
  go_wp2
  have b0 : Blk ((w.alloc (.cells (vals (fillP 0)).toArray 46)).alloc (.cells (vals (fillP 0)).toArray 46)) (w.heap.size + 1) 46 (vals (partP b 0)) := by
    rw [partP_none]; have := Blk.new (w.alloc (.cells (vals (fillP 0)).toArray 46)) 46 (vals (fillP 0)); rwa [World.size_alloc] at this
  have b1 : Blk ((w.alloc (.cells (vals (fillP 0)).toArray 46)).alloc (.cells (vals (fillP 0)).toArray 46)) w.heap.size 46 (vals (fillP 0)) := (Blk.new w 46 _).alloc _
  go_loopw [6] (fun i wr => ∃ k : Nat, k ≤ 256 ∧ i = .int .i64 k ∧ Blk wr (w.heap.size + 1) 46 (vals (partP b k)) ∧ Blk wr w.heap.size 46 (vals (fillP 0)) ∧ Below w.heap.size w wr) (fun i _ => 256 - (intOf i).toNat)
  case atStart => exact ⟨0, by omega, rfl, b0, b1, (below_alloc w _).alloc (by simp) _⟩
  case round =>
    clear b0 b1
    obtain ⟨k, hk, rfl, h0, h1, hb⟩ := hrel
    by_cases hlt : k < 256
    · obtain ⟨u, hu⟩ := partP_get b k k (by omega) (by omega)
      have hc := h0.cell' hu
      have hf := h0.frozen k
      go_wp2
      go_roundw
      case rel => exact ⟨k + 1, by omega, by go_num, blk_part h0 (by omega) rfl, h1.setOther _ _ (by simp), hb.setCell (by simp) _⟩
      case measure => simp [intOf]; omega
    · obtain rfl : k = 256 := by omega
      go_wp2
      clear hk hlt
      go_loopw [14] (fun i wr => ∃ k : Nat, k ≤ 32 ∧ i = .int .i64 k ∧ Blk wr (w.heap.size + 1) 46 (vals (partP b (256 + k))) ∧ Blk wr w.heap.size 46 (vals (fillP 0)) ∧ Below w.heap.size w wr) (fun i _ => 32 - (intOf i).toNat)
      case atStart => exact ⟨0, by omega, rfl, h0, h1, hb⟩
      case round =>
        clear h0 h1 hb
        obtain ⟨k, hk, rfl, h0, h1, hb⟩ := hrel
        by_cases hlt : k < 32
        · obtain ⟨u, hu⟩ := partP_get b (256 + k) (256 + k) (by omega) (by omega)
          have hc := h0.cell' hu
          have hf := h0.frozen (256 + k)
          go_wp2
          go_roundw
          case rel => exact ⟨k + 1, by omega, by go_num, blk_part h0 (by omega) rfl, h1.setOther _ _ (by simp), hb.setCell (by simp) _⟩
          case measure => simp [intOf]; omega
        · obtain rfl : k = 32 := by omega
          rw [show 256 + 32 = 288 from rfl, partP_all] at h0
          go_wp2_with (first
            | (refine wpList_load_mid rfl 46 (.tmp 3) rfl _ _ rfl (vals (fillP b)) _ (h0.range 0 288 _ (by rw [List.drop_zero, List.take_of_length_le (by rw [vals_length, fillP_length]; exact Nat.le_refl _)])) Try.underlying46 rfl sizePage ?_)
            | (refine wpList_store_blk rfl 46 (.tmp 2) (.tmp 22) rfl _ _ (vals (fillP b)) rfl rfl h1 (by rw [vals_length, vals_length, fillP_length, fillP_length]; exact Nat.le_refl _) sizePage (vals_one _) ?_; intro w2 h2 ht2))
          rw [whole_row (by rw [vals_length, vals_length, fillP_length, fillP_length])] at h2
          exact ret_page Try.results17 rfl h2 (fillP_length _) rfl ⟨rfl, ht2.below hb (Nat.le_refl _)⟩
end Go.Proofs.Ythafcnilhloldaa
