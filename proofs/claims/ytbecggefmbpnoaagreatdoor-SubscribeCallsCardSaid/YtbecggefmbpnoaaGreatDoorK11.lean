/- A store into a cell of a row. No condition. -/
import Derived.Laws.ResultCell
import Derived.Test.YtbecggefmbpnoaaGreatDoorK03
import Derived.Test.YtbecggefmbpnoaaGreatDoorK04
namespace Go.Proofs.YtbecggefmbpnoaaGreatDoor
open Go.RowKit
theorem qo4g{w W:World}{B b j:Nat}{u:Value}(h:Below B w W)(hb:B≤b):Below B w (W.setCell ⟨b,j,none⟩ u):=h.setCell (show B≤(⟨b,j,none⟩:Addr).block from hb) u
theorem qv6p{W:World}{b j:Nat}{u:Value}{C D:Array Value}{t:TypeId}(h:W.heap[b]? = some (.cells C t (0,0)))(he:C.setIfInBounds j u=D):(W.setCell ⟨b,j,none⟩ u).heap[b]? = some (.cells D t (0,0)):=by
 have:=qlvy h j u
 rw[he] at this
 exact this
theorem qacl{w W:World}{B:Nat}{r:Option Nat}(h:w.grownBy W r)(hB:w.heap.size≤B)(D:Array Value):w.grownBy (W.setRow B D) r:=
 ⟨h.os,h.tape,h.output,by have:=h.size;simpa [World.setRow] using this,fun k hk hne=>(setRow_other _ _ _ _ (by omega)).trans (h.block k hk hne)⟩
end Go.Proofs.YtbecggefmbpnoaaGreatDoor
