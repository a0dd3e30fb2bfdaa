/-
  What strings.IndexRune answers for a rune above 127 in a string of the bytes 0 and 47.
-/
import Derived.Test.YtikigfjdddgkpaaDtLay
import Derived.Test.YtikigfjdddgkpaaDtB
import Derived.Laws.RangeAny
import Derived.Laws.Runes
import Derived.WalkMore
import Derived.Handy
import Derived.Laws.Strings3
namespace Go.Proofs.Ytikigfjdddgkpaa
open Go.RowKit Go.Shelf
abbrev badS : ByteArray := ⟨#[0, 47]⟩
theorem badS_size : badS.size = 2 := rfl
theorem validRune_any (r : Int) (w : World) : Calls Try.prog 67 #[.int .i32 r] w fun e w' => e = .returned (.bool (validRune r)) ∧ w' = w := by
  go_enter Try.func67, Try.ntmps67
  go_wp2
  all_goals (go_ret; refine ⟨ret_bool ?_, rfl⟩)
  all_goals first | (unfold validRune; symm; rw [decide_eq_true_eq]; omega) | (unfold validRune; symm; rw [decide_eq_false_iff_not]; omega)
set_option maxHeartbeats 8000000 in
set_option maxRecDepth 1000000 in
theorem indexRune_err (w : World) : Calls Try.prog 61 #[.string badS, .int .i32 65533] w fun e w' => e = .returned (.int .i64 (-1)) ∧ Below w.heap.size w w' := by
  have h0 : ∀ ty, (Instr.next (.pointer (some ⟨w.heap.size, 0, none⟩)) true ty).run Try.prog (w.iter badS 0) = .ok (.tuple #[.bool true, .int .i64 0, .int .i32 0]) (w.iter badS 1) := fun ty => run_next_ascii (P := Try.prog) w badS 0 ty (by decide) (by decide)
  have h1 : ∀ ty, (Instr.next (.pointer (some ⟨w.heap.size, 0, none⟩)) true ty).run Try.prog (w.iter badS 1) = .ok (.tuple #[.bool true, .int .i64 1, .int .i32 47]) (w.iter badS 2) := fun ty => run_next_ascii (P := Try.prog) w badS 1 ty (by decide) (by decide)
  have h2 := fun ty => run_next_end (P := Try.prog) w badS 2 ty (by decide)
  go_enter Try.func61, Try.ntmps61
  go_wp2
  go_rounds 3
  go_ret
  exact ⟨rfl, below_alloc _ _⟩
end Go.Proofs.Ytikigfjdddgkpaa
