/-
  The blocks of a new chip.
-/
import Derived.Test.YthafcnilhloldaaNKeep
namespace Go.Proofs.Ythafcnilhloldaa
open Go.RowKit
theorem infoBlk : (Try.prog.info? 78).map (fun i => (i.zero, i.size, i.bytes)) = some (some (.agg #[.slice none 0 0, .int .i64 0, .int .i64 0, .bool false]), 4, 48) := by kernel_rfl
theorem made_blk (n i : Nat) (hi : i < n) : (madeCells (Value.agg #[.slice none 0 0, .int .i64 0, .int .i64 0, .bool false]).cells (n * 4)).toList[i * 4]? = some (.slice none 0 0) ∧ (madeCells (Value.agg #[.slice none 0 0, .int .i64 0, .int .i64 0, .bool false]).cells (n * 4)).toList[i * 4 + 1]? = some (.int .i64 0) ∧
    (madeCells (Value.agg #[.slice none 0 0, .int .i64 0, .int .i64 0, .bool false]).cells (n * 4)).toList[i * 4 + 2]? = some (.int .i64 0) ∧ (madeCells (Value.agg #[.slice none 0 0, .int .i64 0, .int .i64 0, .bool false]).cells (n * 4)).toList[i * 4 + 3]? = some (.bool false) := by
  have hget : ∀ r, r < 4 → (madeCells (Value.agg #[.slice none 0 0, .int .i64 0, .int .i64 0, .bool false]).cells (n * 4)).toList[i * 4 + r]? = some ((#[Value.slice none 0 0, .int .i64 0, .int .i64 0, .bool false] : Array Value)[r]!) := by
    intro r hr
    rw [madeCells, Array.toList_map, Array.toList_range, List.getElem?_map, List.getElem?_range (by omega)]
    simp only [Option.map_some, Value.cells]
    rw [show (#[Value.slice none 0 0, .int .i64 0, .int .i64 0, .bool false] : Array Value).size = 4 from rfl, show (i * 4 + r) % 4 = r from by omega]
  exact ⟨hget 0 (by omega), hget 1 (by omega), hget 2 (by omega), hget 3 (by omega)⟩
end Go.Proofs.Ythafcnilhloldaa
