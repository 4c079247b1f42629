/-
  Bytes one behind the other, and how many. Condition: none.
-/
import Derived.Test.YtnmdbbkcbedklaaDoorKit
namespace Go.Proofs.YtnmdbbkcbedklaaDoor
theorem bs_two (a b : List UInt8) : bs a ++ bs b = bs (a ++ b) := by
  apply ByteArray.ext
  simp [bs]
theorem bs_len (l : List UInt8) : (bs l).size = l.length := by simp [bs, ByteArray.size]
end Go.Proofs.YtnmdbbkcbedklaaDoor
