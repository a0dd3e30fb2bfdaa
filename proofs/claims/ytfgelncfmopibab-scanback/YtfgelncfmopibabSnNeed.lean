/-
  scan.Needed: the blocks of places, rising.
-/
import Derived.Test.YtfgelncfmopibabSnNewRQ
import Derived.Test.YtfgelncfmopibabSnLayB
namespace Go.Proofs.Ytfgelncfmopibab
open Go.RowKit Go.Sort Go.Shelf
def isPl (z : Pl) : Bool := onB 32 z.ph z.pg
def physL (zs : List Pl) : List Int := (zs.filter isPl).map (·.ph)
def neededL (zs : List Pl) : List Int := Lib.compact ((physL zs).mergeSort fun x y => decide (x ≤ y))
theorem physL_snoc (l : List Pl) (z : Pl) : physL (l ++ [z]) = physL l ++ (if isPl z then [z.ph] else []) := by
  unfold physL; rw [List.filter_append]; cases h : isPl z <;> simp [h]
theorem isPlace_any (ph pg : Int) (w : World) : Calls Try.prog 23 #[.agg #[.int .i64 ph, .int .i64 pg]] w fun e w' => e = .returned (.bool (isPl ⟨ph, pg⟩)) ∧ Below w.heap.size w w' := by
  have hb0 := below_alloc w (.cells #[.int .i64 ph, .int .i64 pg] 41)
  have b0 := Blk.new' w 41 #[.int .i64 ph, .int .i64 pg]
  have hE : Hid (isPl ⟨ph, pg⟩ = onB 32 ph pg) := rfl
  rw [hE.out]
  go_enter Try.func23, Try.ntmps23
  go_wp2_with (go_at_call 45; refine (isOn_any _ _ _ _).mono ?_; rintro e w1 ⟨rfl, hb1⟩)
  go_ret
  first | exact ⟨rfl, hb1⟩ | exact ⟨rfl, bt hb0 hb1⟩
end Go.Proofs.Ytfgelncfmopibab
