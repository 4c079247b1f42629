/- The library's functions on strings lie in this program as the library's contracts ask: strings.Join. No condition. -/
import Derived.Shelf.Strings.OnBuilder
import Derived.Test.YtombgnfedafkjaaGreatDoorK02
namespace Go.Proofs.YtombgnfedafkjaaGreatDoor
open Proofs.Tryz
open Go.Shelf
def qdrb:Go.Shelf.Ren:=⟨fun|156=>130|165=>169|166=>114|169=>117|240=>155|241=>213|276=>200|277=>237|n=>n,fun|31=>157|9=>9|3=>3|4=>4|0=>0|20=>20|72=>140|76=>143|70=>138|37=>110|75=>142|127=>177|164=>211|5=>5|80=>87|n=>n,fun|n=>n⟩
theorem qsyr:Go.Proofs.Lays.n156 prog qdrb:={
 mixed:=by kernel_rfl
 f156:=func130.trans (congrArg some (by kernel_rfl))
 f165:=func169.trans (congrArg some (by kernel_rfl))
 f166:=func114.trans (congrArg some (by kernel_rfl))
 f169:=func117.trans (congrArg some (by kernel_rfl))
 f240:=func155.trans (congrArg some (by kernel_rfl))
 f241:=func213.trans (congrArg some (by kernel_rfl))
 f276:=func200.trans (congrArg some (by kernel_rfl))
 f277:=func237.trans (congrArg some (by kernel_rfl))
 t0:=underlying0
 a0:=Tryz.isAgg0
 z0:=Tryz.sizeOf0
 v0:=Tryz.zeroValue0
 t3:=underlying3
 a3:=Tryz.isAgg3
 z3:=Tryz.sizeOf3
 v3:=Tryz.zeroValue3
 t4:=underlying4
 a4:=Tryz.isAgg4
 z4:=Tryz.sizeOf4
 v4:=Tryz.zeroValue4
 t9:=underlying9
 a9:=Tryz.isAgg9
 z9:=Tryz.sizeOf9
 v9:=Tryz.zeroValue9
 t20:=underlying20
 a20:=Tryz.isAgg20
 z20:=Tryz.sizeOf20
 v20:=Tryz.zeroValue20
 t31:=underlying157
 a31:=Tryz.isAgg157
 z31:=Tryz.sizeOf157
 v31:=Tryz.zeroValue157
 t37:=underlying110
 a37:=Tryz.isAgg110
 z37:=Tryz.sizeOf110
 v37:=Tryz.zeroValue110
 t70:=underlying138
 a70:=Tryz.isAgg138
 z70:=Tryz.sizeOf138
 v70:=Tryz.zeroValue138
 t72:=underlying140
 a72:=Tryz.isAgg140
 z72:=Tryz.sizeOf140
 v72:=Tryz.zeroValue140
 t75:=underlying142
 a75:=Tryz.isAgg142
 z75:=Tryz.sizeOf142
 v75:=Tryz.zeroValue142
 t76:=underlying143
 a76:=Tryz.isAgg143
 z76:=Tryz.sizeOf143
 v76:=Tryz.zeroValue143
 t127:=underlying177
 a127:=Tryz.isAgg177
 z127:=Tryz.sizeOf177
 v127:=Tryz.zeroValue177
 t164:=underlying211
 a164:=Tryz.isAgg211
 z164:=Tryz.sizeOf211
 v164:=Tryz.zeroValue211}
theorem q4jg:Builder.Extra prog qdrb:={
 sizeBuilder:=by kernel_rfl
 liesBuilder:=by kernel_rfl
 t5:=underlying5
 a5:=Tryz.isAgg5
 z5:=Tryz.sizeOf5
 v5:=Tryz.zeroValue5
 infoByte:=by kernel_rfl
 cellsByte:=by kernel_rfl
 sizeByte:=by kernel_rfl
 neB5:=by decide}
end Go.Proofs.YtombgnfedafkjaaGreatDoor
