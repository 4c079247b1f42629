/- The contracts of ustring.Binary, Text, ReadBinary and Read. Condition: a string is no longer than an int says. -/
import Derived.Test.YtbecggefmbpnoaaGreatDoorK09
import Derived.Test.YtbecggefmbpnoaaGreatDoorK26
import Derived.Test.YtbecggefmbpnoaaGreatDoorK03
import Derived.Test.YtbecggefmbpnoaaGreatDoorK18
namespace Go.Proofs.YtbecggefmbpnoaaGreatDoor
open Go.RowKit
end Go.Proofs.YtbecggefmbpnoaaGreatDoor
