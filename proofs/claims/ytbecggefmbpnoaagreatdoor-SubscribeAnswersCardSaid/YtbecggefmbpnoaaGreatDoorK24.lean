/- More of a region's operations upon filters: rows, comparisons, bytes of strings. No condition. -/
import Derived.Lib.IndexBytes
import Derived.Test.YtbecggefmbpnoaaGreatDoorK23
namespace Go.Proofs.YtbecggefmbpnoaaGreatDoor
open Go.RowKit
section
variable{a:Act}{w:World}{d:Option Tmp}{p:String}{af:Array Edge}{gd:Option (Nat×Bool)}{x y z:Tmp}{r:TypeId}
end
end Go.Proofs.YtbecggefmbpnoaaGreatDoor
