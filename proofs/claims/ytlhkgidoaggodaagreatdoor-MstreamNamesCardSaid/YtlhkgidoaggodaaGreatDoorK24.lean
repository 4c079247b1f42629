/- The library's functions on strings lie in this program as the library's contracts ask: strings.Join. No condition. -/
import Derived.Shelf.Strings.OnBuilder
import Derived.Test.YtlhkgidoaggodaaGreatDoorK02
namespace Go.Proofs.YtlhkgidoaggodaaGreatDoor
open Proofs.Tryz
open Go.Shelf
def qdrb:Go.Shelf.Ren:=⟨fun|156=>127|165=>167|166=>113|169=>116|240=>153|241=>212|276=>199|277=>236|n=>n,fun|31=>42|9=>9|3=>3|4=>4|0=>0|20=>20|72=>146|76=>149|70=>144|37=>49|75=>148|127=>182|164=>217|5=>5|80=>79|n=>n,fun|n=>n⟩
theorem qsyr:Go.Proofs.Lays.n156 prog qdrb:={
 mixed:=by kernel_rfl
 f156:=func127.trans (congrArg some (by kernel_rfl))
 f165:=func167.trans (congrArg some (by kernel_rfl))
 f166:=func113.trans (congrArg some (by kernel_rfl))
 f169:=func116.trans (congrArg some (by kernel_rfl))
 f240:=func153.trans (congrArg some (by kernel_rfl))
 f241:=func212.trans (congrArg some (by kernel_rfl))
 f276:=func199.trans (congrArg some (by kernel_rfl))
 f277:=func236.trans (congrArg some (by kernel_rfl))
 t0:=underlying0
 a0:=Tryz.isAgg0
 z0:=Tryz.sizeOf0
 v0:=Tryz.zeroValue0
 t3:=underlying3
 a3:=Tryz.isAgg3
 z3:=Tryz.sizeOf3
 v3:=Tryz.zeroValue3
 t4:=underlying4
 a4:=Tryz.isAgg4
 z4:=Tryz.sizeOf4
 v4:=Tryz.zeroValue4
 t9:=underlying9
 a9:=Tryz.isAgg9
 z9:=Tryz.sizeOf9
 v9:=Tryz.zeroValue9
 t20:=underlying20
 a20:=Tryz.isAgg20
 z20:=Tryz.sizeOf20
 v20:=Tryz.zeroValue20
 t31:=underlying42
 a31:=Tryz.isAgg42
 z31:=Tryz.sizeOf42
 v31:=Tryz.zeroValue42
 t37:=underlying49
 a37:=Tryz.isAgg49
 z37:=Tryz.sizeOf49
 v37:=Tryz.zeroValue49
 t70:=underlying144
 a70:=Tryz.isAgg144
 z70:=Tryz.sizeOf144
 v70:=Tryz.zeroValue144
 t72:=underlying146
 a72:=Tryz.isAgg146
 z72:=Tryz.sizeOf146
 v72:=Tryz.zeroValue146
 t75:=underlying148
 a75:=Tryz.isAgg148
 z75:=Tryz.sizeOf148
 v75:=Tryz.zeroValue148
 t76:=underlying149
 a76:=Tryz.isAgg149
 z76:=Tryz.sizeOf149
 v76:=Tryz.zeroValue149
 t127:=underlying182
 a127:=Tryz.isAgg182
 z127:=Tryz.sizeOf182
 v127:=Tryz.zeroValue182
 t164:=underlying217
 a164:=Tryz.isAgg217
 z164:=Tryz.sizeOf217
 v164:=Tryz.zeroValue217}
theorem q4jg:Builder.Extra prog qdrb:={
 sizeBuilder:=by kernel_rfl
 liesBuilder:=by kernel_rfl
 t5:=underlying5
 a5:=Tryz.isAgg5
 z5:=Tryz.sizeOf5
 v5:=Tryz.zeroValue5
 infoByte:=by kernel_rfl
 cellsByte:=by kernel_rfl
 sizeByte:=by kernel_rfl
 neB5:=by decide}
end Go.Proofs.YtlhkgidoaggodaaGreatDoor
