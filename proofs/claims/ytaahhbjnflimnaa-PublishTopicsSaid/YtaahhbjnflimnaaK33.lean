/-
  The library's functions on strings lie in this program as the library's contracts ask: strings.IndexAny. No condition.
-/
import Derived.Shelf.Strings.IndexAnyAll
import Derived.Test.YtaahhbjnflimnaaK18
namespace Go.Proofs.Ytaahhbjnflimnaa
open Go.Shelf
def lays153_ren : Go.Shelf.Ren := ⟨fun | 153 => 76 | 152 => 87 | 226 => 88 | 227 => 89 | 228 => 90 | 137 => 96 | 119 => 97 | 224 => 98 | 225 => 99 | 217 => 101 | 266 => 102 | n => n, fun | 9 => 9 | 3 => 3 | 4 => 4 | 5 => 5 | 21 => 21 | 117 => 130 | 116 => 129 | 0 => 0 | 46 => 125 | 124 => 140 | n => n, fun | n => n⟩
theorem lays153 : Go.Proofs.Lays.n153 Try.prog lays153_ren := {
  mixed := by kernel_rfl
  f119 := Try.func97.trans (congrArg some (by kernel_rfl))
  f137 := Try.func96.trans (congrArg some (by kernel_rfl))
  f152 := Try.func87.trans (congrArg some (by kernel_rfl))
  f153 := Try.func76.trans (congrArg some (by kernel_rfl))
  f217 := Try.func101.trans (congrArg some (by kernel_rfl))
  f224 := Try.func98.trans (congrArg some (by kernel_rfl))
  f225 := Try.func99.trans (congrArg some (by kernel_rfl))
  f226 := Try.func88.trans (congrArg some (by kernel_rfl))
  f227 := Try.func89.trans (congrArg some (by kernel_rfl))
  f228 := Try.func90.trans (congrArg some (by kernel_rfl))
  f266 := Try.func102.trans (congrArg some (by kernel_rfl))
  t0 := Try.underlying0
  a0 := Try.isAgg0
  z0 := Try.sizeOf0
  v0 := Try.zeroValue0
  t3 := Try.underlying3
  a3 := Try.isAgg3
  z3 := Try.sizeOf3
  v3 := Try.zeroValue3
  t4 := Try.underlying4
  a4 := Try.isAgg4
  z4 := Try.sizeOf4
  v4 := Try.zeroValue4
  t5 := Try.underlying5
  a5 := Try.isAgg5
  z5 := Try.sizeOf5
  v5 := Try.zeroValue5
  t9 := Try.underlying9
  a9 := Try.isAgg9
  z9 := Try.sizeOf9
  v9 := Try.zeroValue9
  t21 := Try.underlying21
  a21 := Try.isAgg21
  z21 := Try.sizeOf21
  v21 := Try.zeroValue21
  t46 := Try.underlying125
  a46 := Try.isAgg125
  z46 := Try.sizeOf125
  v46 := Try.zeroValue125
  t116 := Try.underlying129
  a116 := Try.isAgg129
  z116 := Try.sizeOf129
  t117 := Try.underlying130
  a117 := Try.isAgg130
  z117 := Try.sizeOf130
  v117 := Try.zeroValue130
  t124 := Try.underlying140
  a124 := Try.isAgg140
  z124 := Try.sizeOf140
  v124 := Try.zeroValue140 }
end Go.Proofs.Ytaahhbjnflimnaa
