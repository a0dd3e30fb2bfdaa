/-
  The states that the first look at a chip goes through.
-/
import Derived.Test.YthafcnilhloldaaNNewNil
namespace Go.Proofs.Ythafcnilhloldaa
open Go.RowKit
def ev0 : Ev := ⟨2, 2, [255]⟩
def st0 : St := newSt 16 4 [ev0]
def st1 : St := progSt st0 0 0 (fillP 1)
def st2 : St := progSt st1 0 1 (fillP 2)
def st3 : St := { st2 with on := true }
theorem be0 : progE st0 0 0 = 0 := by kernel_rfl
theorem be1 : progE st1 0 1 = 8 := by kernel_rfl
theorem be3 : progE st3 0 1 = 24 := by kernel_rfl
theorem bs3 : progSt st3 0 1 (fillP 2) = st3 := by kernel_rfl
theorem br0 : readP st3 0 0 = fillP 1 := by kernel_rfl
theorem br1 : readP st3 0 1 = fillP 255 := by kernel_rfl
theorem brE0 : reachE st3.nb st3.np st3.on 0 0 = 0 := by kernel_rfl
theorem brE1 : reachE st3.nb st3.np st3.on 0 1 = 0 := by kernel_rfl
theorem bo3 : st3.ops = 2 := by kernel_rfl
theorem bo0 : st0.ops = 0 := by kernel_rfl
theorem bo1 : st1.ops = 1 := by kernel_rfl
theorem geo0 : GeoOk ((16 : Nat) : Int) ((4 : Nat) : Int) := by unfold GeoOk; omega
theorem ok0 : okEvs 0 [ev0] = true := by kernel_rfl
end Go.Proofs.Ythafcnilhloldaa
