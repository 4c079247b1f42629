/- The contract of polyglotref04.Shared. Condition: a string of up to 200,000 bytes. -/
import Derived.Test.YtbecggefmbpnoaaGreatDoorK38
import Derived.Test.YtbecggefmbpnoaaGreatDoorK45
namespace Go.Proofs.YtbecggefmbpnoaaGreatDoor
open Go.RowKit
end Go.Proofs.YtbecggefmbpnoaaGreatDoor
