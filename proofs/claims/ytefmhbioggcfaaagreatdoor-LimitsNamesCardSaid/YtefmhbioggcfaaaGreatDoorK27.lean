/- The library's functions on strings lie in this program as the library's contracts ask: strings.Join. No condition. -/
import Derived.Shelf.Strings.OnBuilder
import Derived.Test.YtefmhbioggcfaaaGreatDoorK02
namespace Go.Proofs.YtefmhbioggcfaaaGreatDoor
open Proofs.Tryz
open Go.Shelf
def qdrb:Go.Shelf.Ren:=⟨fun|156=>152|165=>191|166=>137|169=>140|240=>177|241=>235|276=>222|277=>259|n=>n,fun|31=>40|9=>9|3=>3|4=>4|0=>0|20=>20|72=>172|76=>175|70=>170|37=>58|75=>174|127=>210|164=>243|5=>5|80=>91|n=>n,fun|n=>n⟩
theorem qsyr:Go.Proofs.Lays.n156 prog qdrb:={
 mixed:=by kernel_rfl
 f156:=func152.trans (congrArg some (by kernel_rfl))
 f165:=func191.trans (congrArg some (by kernel_rfl))
 f166:=func137.trans (congrArg some (by kernel_rfl))
 f169:=func140.trans (congrArg some (by kernel_rfl))
 f240:=func177.trans (congrArg some (by kernel_rfl))
 f241:=func235.trans (congrArg some (by kernel_rfl))
 f276:=func222.trans (congrArg some (by kernel_rfl))
 f277:=func259.trans (congrArg some (by kernel_rfl))
 t0:=underlying0
 a0:=Tryz.isAgg0
 z0:=Tryz.sizeOf0
 v0:=Tryz.zeroValue0
 t3:=underlying3
 a3:=Tryz.isAgg3
 z3:=Tryz.sizeOf3
 v3:=Tryz.zeroValue3
 t4:=underlying4
 a4:=Tryz.isAgg4
 z4:=Tryz.sizeOf4
 v4:=Tryz.zeroValue4
 t9:=underlying9
 a9:=Tryz.isAgg9
 z9:=Tryz.sizeOf9
 v9:=Tryz.zeroValue9
 t20:=underlying20
 a20:=Tryz.isAgg20
 z20:=Tryz.sizeOf20
 v20:=Tryz.zeroValue20
 t31:=underlying40
 a31:=Tryz.isAgg40
 z31:=Tryz.sizeOf40
 v31:=Tryz.zeroValue40
 t37:=underlying58
 a37:=Tryz.isAgg58
 z37:=Tryz.sizeOf58
 v37:=Tryz.zeroValue58
 t70:=underlying170
 a70:=Tryz.isAgg170
 z70:=Tryz.sizeOf170
 v70:=Tryz.zeroValue170
 t72:=underlying172
 a72:=Tryz.isAgg172
 z72:=Tryz.sizeOf172
 v72:=Tryz.zeroValue172
 t75:=underlying174
 a75:=Tryz.isAgg174
 z75:=Tryz.sizeOf174
 v75:=Tryz.zeroValue174
 t76:=underlying175
 a76:=Tryz.isAgg175
 z76:=Tryz.sizeOf175
 v76:=Tryz.zeroValue175
 t127:=underlying210
 a127:=Tryz.isAgg210
 z127:=Tryz.sizeOf210
 v127:=Tryz.zeroValue210
 t164:=underlying243
 a164:=Tryz.isAgg243
 z164:=Tryz.sizeOf243
 v164:=Tryz.zeroValue243}
theorem q4jg:Builder.Extra prog qdrb:={
 sizeBuilder:=by kernel_rfl
 liesBuilder:=by kernel_rfl
 t5:=underlying5
 a5:=Tryz.isAgg5
 z5:=Tryz.sizeOf5
 v5:=Tryz.zeroValue5
 infoByte:=by kernel_rfl
 cellsByte:=by kernel_rfl
 sizeByte:=by kernel_rfl
 neB5:=by decide}
end Go.Proofs.YtefmhbioggcfaaaGreatDoor
