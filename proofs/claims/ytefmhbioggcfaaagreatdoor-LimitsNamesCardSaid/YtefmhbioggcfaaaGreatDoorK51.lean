/- slices.Sort at []int lies in this program as the library's contract asks. No condition. -/
import Derived.Shelf.Sort.Plain
import Derived.Shelf.Slices.In.SortNone
import Derived.Test.YtefmhbioggcfaaaGreatDoorProg
namespace Go.Proofs.YtefmhbioggcfaaaGreatDoor
open Proofs.Tryz
open Go.Shelf
def qi9b:Go.Shelf.Ren:=⟨fun|189=>30|125=>50|257=>49|128=>82|129=>83|294=>73|295=>74|296=>75|297=>76|298=>77|299=>78|216=>79|300=>80|301=>81|328=>100|329=>101|330=>102|331=>103|332=>104|215=>105|343=>147|n=>n,fun|28=>35|3=>3|46=>106|0=>0|51=>80|53=>86|4=>4|183=>127|182=>126|131=>132|5=>5|9=>9|218=>140|222=>144|228=>184|229=>185|n=>n,fun|n=>n⟩
theorem q8g8:Go.Proofs.Lays.n189 prog qi9b:={
 mixed:=by kernel_rfl
 f125:=func50.trans (congrArg some (by kernel_rfl))
 f128:=func82.trans (congrArg some (by kernel_rfl))
 f129:=func83.trans (congrArg some (by kernel_rfl))
 f189:=func30.trans (congrArg some (by kernel_rfl))
 f215:=func105.trans (congrArg some (by kernel_rfl))
 f216:=func79.trans (congrArg some (by kernel_rfl))
 f257:=func49.trans (congrArg some (by kernel_rfl))
 f294:=func73.trans (congrArg some (by kernel_rfl))
 f295:=func74.trans (congrArg some (by kernel_rfl))
 f296:=func75.trans (congrArg some (by kernel_rfl))
 f297:=func76.trans (congrArg some (by kernel_rfl))
 f298:=func77.trans (congrArg some (by kernel_rfl))
 f299:=func78.trans (congrArg some (by kernel_rfl))
 f300:=func80.trans (congrArg some (by kernel_rfl))
 f301:=func81.trans (congrArg some (by kernel_rfl))
 f328:=func100.trans (congrArg some (by kernel_rfl))
 f329:=func101.trans (congrArg some (by kernel_rfl))
 f330:=func102.trans (congrArg some (by kernel_rfl))
 f331:=func103.trans (congrArg some (by kernel_rfl))
 f332:=func104.trans (congrArg some (by kernel_rfl))
 f343:=func147.trans (congrArg some (by kernel_rfl))
 t0:=underlying0
 a0:=Tryz.isAgg0
 z0:=Tryz.sizeOf0
 v0:=Tryz.zeroValue0
 t3:=underlying3
 a3:=Tryz.isAgg3
 z3:=Tryz.sizeOf3
 v3:=Tryz.zeroValue3
 t4:=underlying4
 a4:=Tryz.isAgg4
 z4:=Tryz.sizeOf4
 v4:=Tryz.zeroValue4
 t5:=underlying5
 a5:=Tryz.isAgg5
 z5:=Tryz.sizeOf5
 v5:=Tryz.zeroValue5
 t9:=underlying9
 a9:=Tryz.isAgg9
 z9:=Tryz.sizeOf9
 v9:=Tryz.zeroValue9
 t28:=underlying35
 a28:=Tryz.isAgg35
 z28:=Tryz.sizeOf35
 v28:=Tryz.zeroValue35
 t46:=underlying106
 a46:=Tryz.isAgg106
 z46:=Tryz.sizeOf106
 v46:=Tryz.zeroValue106
 t51:=underlying80
 a51:=Tryz.isAgg80
 z51:=Tryz.sizeOf80
 v51:=Tryz.zeroValue80
 t53:=underlying86
 a53:=Tryz.isAgg86
 z53:=Tryz.sizeOf86
 v53:=Tryz.zeroValue86
 t131:=underlying132
 a131:=Tryz.isAgg132
 z131:=Tryz.sizeOf132
 v131:=Tryz.zeroValue132
 t182:=underlying126
 a182:=Tryz.isAgg126
 z182:=Tryz.sizeOf126
 v182:=Tryz.zeroValue126
 t183:=underlying127
 a183:=Tryz.isAgg127
 z183:=Tryz.sizeOf127
 v183:=Tryz.zeroValue127
 t218:=underlying140
 a218:=Tryz.isAgg140
 z218:=Tryz.sizeOf140
 v218:=Tryz.zeroValue140
 t222:=underlying144
 a222:=Tryz.isAgg144
 z222:=Tryz.sizeOf144
 v222:=Tryz.zeroValue144
 t228:=underlying184
 a228:=Tryz.isAgg184
 z228:=Tryz.sizeOf184
 v228:=Tryz.zeroValue184
 t229:=underlying185
 a229:=Tryz.isAgg185
 z229:=Tryz.sizeOf185
 v229:=Tryz.zeroValue185}
end Go.Proofs.YtefmhbioggcfaaaGreatDoor
