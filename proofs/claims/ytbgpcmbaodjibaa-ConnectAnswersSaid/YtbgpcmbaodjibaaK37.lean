/-
  The library's functions on strings lie in this program as the library's contracts ask: strings.IndexAny. No condition.
-/
import Derived.Shelf.Strings.IndexAnyAll
import Derived.Test.YtbgpcmbaodjibaaK15
namespace Go.Proofs.Ytbgpcmbaodjibaa
open Go.Shelf
def lays153_ren : Go.Shelf.Ren := ⟨fun | 153 => 65 | 152 => 75 | 226 => 76 | 227 => 77 | 228 => 78 | 137 => 87 | 119 => 88 | 224 => 89 | 225 => 90 | 217 => 91 | 266 => 92 | n => n, fun | 9 => 9 | 3 => 3 | 4 => 4 | 5 => 5 | 21 => 21 | 117 => 123 | 116 => 122 | 0 => 0 | 46 => 117 | 124 => 133 | n => n, fun | n => n⟩
theorem lays153 : Go.Proofs.Lays.n153 Try.prog lays153_ren := {
  mixed := by kernel_rfl
  f119 := Try.func88.trans (congrArg some (by kernel_rfl))
  f137 := Try.func87.trans (congrArg some (by kernel_rfl))
  f152 := Try.func75.trans (congrArg some (by kernel_rfl))
  f153 := Try.func65.trans (congrArg some (by kernel_rfl))
  f217 := Try.func91.trans (congrArg some (by kernel_rfl))
  f224 := Try.func89.trans (congrArg some (by kernel_rfl))
  f225 := Try.func90.trans (congrArg some (by kernel_rfl))
  f226 := Try.func76.trans (congrArg some (by kernel_rfl))
  f227 := Try.func77.trans (congrArg some (by kernel_rfl))
  f228 := Try.func78.trans (congrArg some (by kernel_rfl))
  f266 := Try.func92.trans (congrArg some (by kernel_rfl))
  t0 := Try.underlying0
  a0 := Try.isAgg0
  z0 := Try.sizeOf0
  v0 := Try.zeroValue0
  t3 := Try.underlying3
  a3 := Try.isAgg3
  z3 := Try.sizeOf3
  v3 := Try.zeroValue3
  t4 := Try.underlying4
  a4 := Try.isAgg4
  z4 := Try.sizeOf4
  v4 := Try.zeroValue4
  t5 := Try.underlying5
  a5 := Try.isAgg5
  z5 := Try.sizeOf5
  v5 := Try.zeroValue5
  t9 := Try.underlying9
  a9 := Try.isAgg9
  z9 := Try.sizeOf9
  v9 := Try.zeroValue9
  t21 := Try.underlying21
  a21 := Try.isAgg21
  z21 := Try.sizeOf21
  v21 := Try.zeroValue21
  t46 := Try.underlying117
  a46 := Try.isAgg117
  z46 := Try.sizeOf117
  v46 := Try.zeroValue117
  t116 := Try.underlying122
  a116 := Try.isAgg122
  z116 := Try.sizeOf122
  t117 := Try.underlying123
  a117 := Try.isAgg123
  z117 := Try.sizeOf123
  v117 := Try.zeroValue123
  t124 := Try.underlying133
  a124 := Try.isAgg133
  z124 := Try.sizeOf133
  v124 := Try.zeroValue133 }
end Go.Proofs.Ytbgpcmbaodjibaa
