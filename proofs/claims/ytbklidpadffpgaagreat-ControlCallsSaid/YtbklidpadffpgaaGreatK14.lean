/- The load of a whole row by an operation that a guard may keep back. No program. Condition: none. -/
import Derived.Lib.Hide
import Derived.WalkKit
import Derived.Lib.Walk
import Derived.Lib.Tables
namespace Go.Proofs.YtbklidpadffpgaaGreat
open Go.RowKit
end Go.Proofs.YtbklidpadffpgaaGreat
