/- The load of a struct that is an element of a row: its cells qk87 a letter. No program. Condition: none. -/
import Derived.Test.YtlhkgidoaggodaaGreatDoorK05
namespace Go.Proofs.YtlhkgidoaggodaaGreatDoor
open Go.RowKit
section
variable{P:Program}
variable{ops:Array Oper}{rest:List Oper}{o:Oper}{a:Act}{w:World}{Q:Exit->Act->World->Prop}
end
end Go.Proofs.YtlhkgidoaggodaaGreatDoor
namespace Go.Proofs.YtlhkgidoaggodaaGreatDoor
section
variable{v:Int}{m:Nat}{K:List UInt8}
end
end Go.Proofs.YtlhkgidoaggodaaGreatDoor
