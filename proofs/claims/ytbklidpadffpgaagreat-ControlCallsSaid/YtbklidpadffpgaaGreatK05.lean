/- Bytes one qk87 the other, and how many. Condition: none. -/
import Derived.Lib.Hide
import Derived.Test.YtbklidpadffpgaaGreatK03
namespace Go.Proofs.YtbklidpadffpgaaGreat
theorem qkrc(l:List UInt8):(bs l).size=l.length:=by simp[bs,ByteArray.size]
structure Pr where
 id:Int
 n:Nat
 text:List UInt8
 value:List UInt8
deriving DecidableEq
end Go.Proofs.YtbklidpadffpgaaGreat
