/- Where prop.Read tells an error it tells nothing else. No program. No condition. -/
import Derived.Laws.ResultCell
import Derived.Test.YthhdhagenmcbeaaK10
import Derived.Test.YthhdhagenmcbeaaK07
import Derived.Test.YthhdhagenmcbeaaK03
import Derived.Test.YthhdhagenmcbeaaK02
namespace Go.Proofs.Ythhdhagenmcbeaa
def necA(p:Pk):Nat:=if p.props≠[] then 2 else if p.code≠0 then 1 else 0
theorem qxhf(p:Pk):necA p=0∨necA p=1∨necA p=2:=by
 unfold necA
 by_cases h:p.props=[]
 ·by_cases h1:p.code=0<;>simp[h,h1]
 ·simp[h]
end Go.Proofs.Ythhdhagenmcbeaa
namespace Go.Proofs.Ythhdhagenmcbeaa
open Go.RowKit
structure BxS(w:World)(p:Pk)(a:Ad)(W:World):Prop where
 low:Below w.heap.size w W
 box:W.heap[w.heap.size]? = some (.cells (pkC p a) 31 (0,0))
theorem BxS.made(w:World)(p:Pk)(a:Ad):BxS w p a (w.alloc (.cells (pkC p a) 31)):=⟨qybm _,heap_alloc_new _ _⟩
theorem BxS.call{w W W':World}{p:Pk}{a:Ad}(h:BxS w p a W)(hb:Below W.heap.size W W'):BxS w p a W':=⟨qxh2 h.low hb,(hb.block _ (lt_of_block h.box)).trans h.box⟩
theorem BxS.draw{w W:World}{p:Pk}{a:Ad}(h:BxS w p a W):BxS w p a W.drew:=⟨h.low.drew,h.box⟩
theorem BxS.cell{w W:World}{p:Pk}{a:Ad}(h:BxS w p a W)(j:Nat):W.cell? ⟨w.heap.size,j,none⟩=(pkC p a)[j]? := cell_of_row _ _ j _ _ _ h.box
end Go.Proofs.Ythhdhagenmcbeaa
