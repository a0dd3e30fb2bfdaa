/-
  What dirent.need, record.hasEntry, record.spare answer.
-/
import Derived.Test.YtikigfjdddgkpaaDtP
import Derived.Test.YtikigfjdddgkpaaDtC
namespace Go.Proofs.Ytikigfjdddgkpaa
open Go.RowKit
theorem sz (l : List UInt8) : (⟨l.toArray⟩ : ByteArray).size = l.length := by simp [ByteArray.size]
theorem need_any (l : List UInt8) (w : World) (hl : l.length ≤ 100000) : Calls Try.prog 49 #[.string ⟨l.toArray⟩] w fun e w' => e = .returned (.int .i64 (needE l)) ∧ w' = w := by
  have hs := sz l
  go_enter Try.func49, Try.ntmps49
  go_wp2
  go_ret
  exact ⟨ret_int (by unfold needE; omega), rfl⟩
theorem has_any (r : Rc) (w : World) : Calls Try.prog 45 #[r.val] w fun e w' => e = .returned (.bool r.has) ∧ Below w.heap.size w w' := by
  have hb := below_alloc w (.cells #[.int .i64 r.pl, .int .i64 r.ln, .string ⟨r.nm.toArray⟩, .int .i64 r.ino, .int .i64 r.kd] 69)
  go_enter Try.func45, Try.ntmps45
  go_wp2
  go_ret
  exact ⟨rfl, hb⟩
end Go.Proofs.Ytikigfjdddgkpaa
