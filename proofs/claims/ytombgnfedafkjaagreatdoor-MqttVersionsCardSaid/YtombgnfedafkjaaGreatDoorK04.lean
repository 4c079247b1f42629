/- A property, as plain data. No program. Condition: none. -/
import Derived.Lib.Hide
namespace Go.Proofs.YtombgnfedafkjaaGreatDoor
structure Pr where
 id:Int
 n:Nat
 text:List UInt8
 value:List UInt8
deriving DecidableEq
end Go.Proofs.YtombgnfedafkjaaGreatDoor
