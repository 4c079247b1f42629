/-
  The library's functions on strings lie in this program as the library's contracts ask: strings.IndexAny. No condition.
-/
import Derived.Shelf.Strings.IndexAnyAll
import Derived.Test.YtgdaojihpjfjiaaKit
namespace Go.Proofs.Ytgdaojihpjfjiaa
open Go.Shelf
def lays153_ren : Go.Shelf.Ren := ⟨fun | 153 => 104 | 152 => 106 | 226 => 107 | 227 => 108 | 228 => 109 | 137 => 111 | 119 => 112 | 224 => 113 | 225 => 114 | 217 => 115 | 266 => 116 | n => n, fun | 9 => 9 | 3 => 3 | 4 => 4 | 5 => 5 | 21 => 21 | 117 => 141 | 116 => 140 | 0 => 0 | 46 => 94 | 124 => 146 | n => n, fun | n => n⟩
theorem lays153 : Go.Proofs.Lays.n153 Try.prog lays153_ren := {
  mixed := by kernel_rfl
  f119 := Try.func112.trans (congrArg some (by kernel_rfl))
  f137 := Try.func111.trans (congrArg some (by kernel_rfl))
  f152 := Try.func106.trans (congrArg some (by kernel_rfl))
  f153 := Try.func104.trans (congrArg some (by kernel_rfl))
  f217 := Try.func115.trans (congrArg some (by kernel_rfl))
  f224 := Try.func113.trans (congrArg some (by kernel_rfl))
  f225 := Try.func114.trans (congrArg some (by kernel_rfl))
  f226 := Try.func107.trans (congrArg some (by kernel_rfl))
  f227 := Try.func108.trans (congrArg some (by kernel_rfl))
  f228 := Try.func109.trans (congrArg some (by kernel_rfl))
  f266 := Try.func116.trans (congrArg some (by kernel_rfl))
  t0 := Try.underlying0
  a0 := Try.isAgg0
  z0 := Try.sizeOf0
  v0 := Try.zeroValue0
  t3 := Try.underlying3
  a3 := Try.isAgg3
  z3 := Try.sizeOf3
  v3 := Try.zeroValue3
  t4 := Try.underlying4
  a4 := Try.isAgg4
  z4 := Try.sizeOf4
  v4 := Try.zeroValue4
  t5 := Try.underlying5
  a5 := Try.isAgg5
  z5 := Try.sizeOf5
  v5 := Try.zeroValue5
  t9 := Try.underlying9
  a9 := Try.isAgg9
  z9 := Try.sizeOf9
  v9 := Try.zeroValue9
  t21 := Try.underlying21
  a21 := Try.isAgg21
  z21 := Try.sizeOf21
  v21 := Try.zeroValue21
  t46 := Try.underlying94
  a46 := Try.isAgg94
  z46 := Try.sizeOf94
  v46 := Try.zeroValue94
  t116 := Try.underlying140
  a116 := Try.isAgg140
  z116 := Try.sizeOf140
  t117 := Try.underlying141
  a117 := Try.isAgg141
  z117 := Try.sizeOf141
  v117 := Try.zeroValue141
  t124 := Try.underlying146
  a124 := Try.isAgg146
  z124 := Try.sizeOf146
  v124 := Try.zeroValue146 }
end Go.Proofs.Ytgdaojihpjfjiaa
