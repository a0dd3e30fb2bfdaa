/-
  Literals of ints and of uint64 in new blocks.
-/
import Derived.Test.YtbimcdaplnmjdaaPack
import Derived.Test.YtbimcdaplnmjdaaDkCells
namespace Go.Proofs.Ytbimcdaplnmjdaa
open Go.RowKit
theorem in_litI (w : World) {cs : Array Value} {xs : List Int} {n : Nat} (h : cs.toList = xs.map (Value.int .i64)) (hn : xs.length = n) (hr : n ≤ 140737488355328) :
    InI (w.alloc (.cells cs 3)) (some ⟨w.heap.size, 0, none⟩) n n xs := by
  have hs : cs.size = n * 1 := by rw [← Array.length_toList, h, List.length_map, hn, Nat.mul_one]
  have ho := World.ownsRow_lit (e := 3) (size := 1) (base := 0) w cs n (Nat.zero_le _) (by unfold maxLen; omega) hs
  refine ⟨hn, Nat.le_refl _, by unfold maxLen; omega, hr, fun _ => ⟨w.heap.size, 0, rfl, by simp, fun i hi => ?_⟩⟩
  rw [Nat.zero_add, ho.cellAt i (by omega), h]
  simp [eI, hn, hi]
theorem in_lit64 (w : World) {cs : Array Value} {xs : List Nat} {n : Nat} (h : cs.toList = xs.map (fun x : Nat => Value.int .u64 (x : Int))) (hn : xs.length = n) (hl : ∀ x ∈ xs, x < 18446744073709551616) (hr : n ≤ 140737488355328) :
    In64 (w.alloc (.cells cs 73)) (some ⟨w.heap.size, 0, none⟩) n n xs := by
  have hs : cs.size = n * 1 := by rw [← Array.length_toList, h, List.length_map, hn, Nat.mul_one]
  have ho := World.ownsRow_lit (e := 73) (size := 1) (base := 0) w cs n (Nat.zero_le _) (by unfold maxLen; omega) hs
  refine ⟨hn, Nat.le_refl _, by unfold maxLen; omega, hr, hl, fun _ => ⟨w.heap.size, 0, rfl, by simp, fun i hi => ?_⟩⟩
  rw [Nat.zero_add, ho.cellAt i (by omega), h]
  simp [el, hn, hi]
theorem wrapU (n : Nat) (h : n < 18446744073709551616) : IntKind.u64.wrap (n : Int) = (n : Int) := by
  rw [IntKind.wrap_u64]; omega
end Go.Proofs.Ytbimcdaplnmjdaa
