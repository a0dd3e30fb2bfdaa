/-
  strings.IndexAny at this program: the bodies are those that the library's contracts speak of.
-/
import Derived.Test.YtikigfjdddgkpaaProg
import Derived.Shelf.Strings.IndexAnyAll
namespace Go.Proofs.Ytikigfjdddgkpaa
open Go.Shelf
def idxAny_ren : Go.Shelf.Ren := ⟨fun | 153 => 57 | 152 => 61 | 226 => 62 | 227 => 63 | 228 => 64 | 137 => 66 | 119 => 67 | 224 => 68 | 225 => 69 | 217 => 70 | 266 => 71 | n => n, fun | 9 => 9 | 3 => 3 | 4 => 4 | 5 => 5 | 21 => 21 | 117 => 92 | 116 => 91 | 0 => 0 | 46 => 87 | 124 => 98 | n => n, fun | n => n⟩
theorem idxAny : Go.Proofs.Lays.n153 Try.prog idxAny_ren := {
  mixed := by kernel_rfl
  f119 := Try.func67.trans (congrArg some (by kernel_rfl))
  f137 := Try.func66.trans (congrArg some (by kernel_rfl))
  f152 := Try.func61.trans (congrArg some (by kernel_rfl))
  f153 := Try.func57.trans (congrArg some (by kernel_rfl))
  f217 := Try.func70.trans (congrArg some (by kernel_rfl))
  f224 := Try.func68.trans (congrArg some (by kernel_rfl))
  f225 := Try.func69.trans (congrArg some (by kernel_rfl))
  f226 := Try.func62.trans (congrArg some (by kernel_rfl))
  f227 := Try.func63.trans (congrArg some (by kernel_rfl))
  f228 := Try.func64.trans (congrArg some (by kernel_rfl))
  f266 := Try.func71.trans (congrArg some (by kernel_rfl))
  t0 := Try.underlying0
  a0 := Try.isAgg0
  z0 := Try.sizeOf0
  v0 := Try.zeroValue0
  t3 := Try.underlying3
  a3 := Try.isAgg3
  z3 := Try.sizeOf3
  v3 := Try.zeroValue3
  t4 := Try.underlying4
  a4 := Try.isAgg4
  z4 := Try.sizeOf4
  v4 := Try.zeroValue4
  t5 := Try.underlying5
  a5 := Try.isAgg5
  z5 := Try.sizeOf5
  v5 := Try.zeroValue5
  t9 := Try.underlying9
  a9 := Try.isAgg9
  z9 := Try.sizeOf9
  v9 := Try.zeroValue9
  t21 := Try.underlying21
  a21 := Try.isAgg21
  z21 := Try.sizeOf21
  v21 := Try.zeroValue21
  t46 := Try.underlying87
  a46 := Try.isAgg87
  z46 := Try.sizeOf87
  v46 := Try.zeroValue87
  t116 := Try.underlying91
  a116 := Try.isAgg91
  z116 := Try.sizeOf91
  t117 := Try.underlying92
  a117 := Try.isAgg92
  z117 := Try.sizeOf92
  v117 := Try.zeroValue92
  t124 := Try.underlying98
  a124 := Try.isAgg98
  z124 := Try.sizeOf98
  v124 := Try.zeroValue98 }
end Go.Proofs.Ytikigfjdddgkpaa
