/-
  slices.Sort at []int lies in this program as the library's contract asks. No condition.
-/
import Derived.Shelf.Sort.Plain
import Derived.Shelf.Slices.In.SortNone
import Derived.Test.YtecadfnajogffaaProg
namespace Go.Proofs.Ytecadfnajogffaa
open Go.Shelf
def lays189_ren : Go.Shelf.Ren := ⟨fun | 189 => 10 | 125 => 12 | 257 => 11 | 128 => 22 | 129 => 23 | 294 => 13 | 295 => 14 | 296 => 15 | 297 => 16 | 298 => 17 | 299 => 18 | 216 => 19 | 300 => 20 | 301 => 21 | 328 => 24 | 329 => 25 | 330 => 26 | 331 => 27 | 332 => 28 | 215 => 29 | 343 => 30 | n => n, fun | 28 => 22 | 3 => 3 | 46 => 34 | 0 => 0 | 51 => 45 | 53 => 47 | 4 => 4 | 183 => 37 | 182 => 36 | 131 => 42 | 5 => 5 | 9 => 9 | 218 => 48 | 222 => 52 | 228 => 55 | 229 => 56 | n => n, fun | n => n⟩
theorem lays189 : Go.Proofs.Lays.n189 Try.prog lays189_ren := {
  mixed := by kernel_rfl
  f125 := Try.func12.trans (congrArg some (by kernel_rfl))
  f128 := Try.func22.trans (congrArg some (by kernel_rfl))
  f129 := Try.func23.trans (congrArg some (by kernel_rfl))
  f189 := Try.func10.trans (congrArg some (by kernel_rfl))
  f215 := Try.func29.trans (congrArg some (by kernel_rfl))
  f216 := Try.func19.trans (congrArg some (by kernel_rfl))
  f257 := Try.func11.trans (congrArg some (by kernel_rfl))
  f294 := Try.func13.trans (congrArg some (by kernel_rfl))
  f295 := Try.func14.trans (congrArg some (by kernel_rfl))
  f296 := Try.func15.trans (congrArg some (by kernel_rfl))
  f297 := Try.func16.trans (congrArg some (by kernel_rfl))
  f298 := Try.func17.trans (congrArg some (by kernel_rfl))
  f299 := Try.func18.trans (congrArg some (by kernel_rfl))
  f300 := Try.func20.trans (congrArg some (by kernel_rfl))
  f301 := Try.func21.trans (congrArg some (by kernel_rfl))
  f328 := Try.func24.trans (congrArg some (by kernel_rfl))
  f329 := Try.func25.trans (congrArg some (by kernel_rfl))
  f330 := Try.func26.trans (congrArg some (by kernel_rfl))
  f331 := Try.func27.trans (congrArg some (by kernel_rfl))
  f332 := Try.func28.trans (congrArg some (by kernel_rfl))
  f343 := Try.func30.trans (congrArg some (by kernel_rfl))
  t0 := Try.underlying0
  a0 := Try.isAgg0
  z0 := Try.sizeOf0
  v0 := Try.zeroValue0
  t3 := Try.underlying3
  a3 := Try.isAgg3
  z3 := Try.sizeOf3
  v3 := Try.zeroValue3
  t4 := Try.underlying4
  a4 := Try.isAgg4
  z4 := Try.sizeOf4
  v4 := Try.zeroValue4
  t5 := Try.underlying5
  a5 := Try.isAgg5
  z5 := Try.sizeOf5
  v5 := Try.zeroValue5
  t9 := Try.underlying9
  a9 := Try.isAgg9
  z9 := Try.sizeOf9
  v9 := Try.zeroValue9
  t28 := Try.underlying22
  a28 := Try.isAgg22
  z28 := Try.sizeOf22
  v28 := Try.zeroValue22
  t46 := Try.underlying34
  a46 := Try.isAgg34
  z46 := Try.sizeOf34
  v46 := Try.zeroValue34
  t51 := Try.underlying45
  a51 := Try.isAgg45
  z51 := Try.sizeOf45
  v51 := Try.zeroValue45
  t53 := Try.underlying47
  a53 := Try.isAgg47
  z53 := Try.sizeOf47
  v53 := Try.zeroValue47
  t131 := Try.underlying42
  a131 := Try.isAgg42
  z131 := Try.sizeOf42
  v131 := Try.zeroValue42
  t182 := Try.underlying36
  a182 := Try.isAgg36
  z182 := Try.sizeOf36
  v182 := Try.zeroValue36
  t183 := Try.underlying37
  a183 := Try.isAgg37
  z183 := Try.sizeOf37
  v183 := Try.zeroValue37
  t218 := Try.underlying48
  a218 := Try.isAgg48
  z218 := Try.sizeOf48
  v218 := Try.zeroValue48
  t222 := Try.underlying52
  a222 := Try.isAgg52
  z222 := Try.sizeOf52
  v222 := Try.zeroValue52
  t228 := Try.underlying55
  a228 := Try.isAgg55
  z228 := Try.sizeOf55
  v228 := Try.zeroValue55
  t229 := Try.underlying56
  a229 := Try.isAgg56
  z229 := Try.sizeOf56
  v229 := Try.zeroValue56 }
end Go.Proofs.Ytecadfnajogffaa
