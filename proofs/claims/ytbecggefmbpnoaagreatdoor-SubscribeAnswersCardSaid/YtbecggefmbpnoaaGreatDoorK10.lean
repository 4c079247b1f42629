/- A ghost: where a list lies, its capacity. No condition. -/
import Derived.Laws.ResultCell
import Derived.Test.YtbecggefmbpnoaaGreatDoorK02
import Derived.Test.YtbecggefmbpnoaaGreatDoorK05
import Derived.Test.YtbecggefmbpnoaaGreatDoorK03
namespace Go.Proofs.YtbecggefmbpnoaaGreatDoor
end Go.Proofs.YtbecggefmbpnoaaGreatDoor
namespace Go.Proofs.YtbecggefmbpnoaaGreatDoor
open Go.RowKit
theorem qacl{w W:World}{B:Nat}{r:Option Nat}(h:w.grownBy W r)(hB:w.heap.size≤B)(D:Array Value):w.grownBy (W.setRow B D) r:=
 ⟨h.os,h.tape,h.output,by have:=h.size;simpa [World.setRow] using this,fun k hk hne=>(setRow_other _ _ _ _ (by omega)).trans (h.block k hk hne)⟩
end Go.Proofs.YtbecggefmbpnoaaGreatDoor
namespace Go.Proofs.YtbecggefmbpnoaaGreatDoor
end Go.Proofs.YtbecggefmbpnoaaGreatDoor
