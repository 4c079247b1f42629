/- The library's functions on strings lie in this program as the library's contracts ask: stringslite.HasPrefix. No condition. -/
import Derived.Shelf.Strings.Prefix
import Derived.Test.YtefmhbioggcfaaaGreatDoorK02
namespace Go.Proofs.YtefmhbioggcfaaaGreatDoor
open Proofs.Tryz
open Go.Shelf
def qfmg:Go.Shelf.Ren:=⟨fun|206=>286|n=>n,fun|9=>9|4=>4|3=>3|n=>n,fun|n=>n⟩
theorem q0mj:Go.Proofs.Lays.n206 prog qfmg:={
 mixed:=by kernel_rfl
 f206:=func286.trans (congrArg some (by kernel_rfl))
 t3:=underlying3
 a3:=Tryz.isAgg3
 z3:=Tryz.sizeOf3
 v3:=Tryz.zeroValue3
 t4:=underlying4
 a4:=Tryz.isAgg4
 z4:=Tryz.sizeOf4
 v4:=Tryz.zeroValue4
 t9:=underlying9
 a9:=Tryz.isAgg9
 z9:=Tryz.sizeOf9
 v9:=Tryz.zeroValue9}
end Go.Proofs.YtefmhbioggcfaaaGreatDoor
