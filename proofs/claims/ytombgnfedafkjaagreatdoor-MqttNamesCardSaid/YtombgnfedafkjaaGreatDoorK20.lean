/- polyglotkit.None at the packet that is nothing. No condition. -/
import Derived.Deep.MidRow
import Derived.Test.YtombgnfedafkjaaGreatDoorK18
import Derived.Test.YtombgnfedafkjaaGreatDoorK14
namespace Go.Proofs.YtombgnfedafkjaaGreatDoor
open Go.RowKit
structure NmS(w:World)(L:List (Nat×Array Value))(W:World):Prop where
 low:Below w.heap.size w W
 row:∀x∈L,w.heap.size<=x.1/\W.heap[x.1]?=some (.cells x.2 32 (0,0))
 dif:L.Pairwise fun x y=>y.1<x.1
theorem NmS.call{w W W':World}{L:List (Nat×Array Value)}(h:NmS w L W)(hb:Below W.heap.size W W'):NmS w L W':=⟨qxh2 h.low hb,fun x hx=>⟨(h.row x hx).1,(hb.block _ (lt_of_block (h.row x hx).2)).trans (h.row x hx).2⟩,h.dif⟩
theorem qhum(W:World)(D:Array Value):Below W.heap.size W ((W.alloc (.cells pkZ 32)).setRow W.heap.size D):=q8xz (qybm _) (Nat.le_refl _) _
theorem NmS.put{w W:World}{L:List (Nat×Array Value)}(h:NmS w L W)(D:Array Value):NmS w ((W.heap.size,D)::L) ((W.alloc (.cells pkZ 32)).setRow W.heap.size D):=by
 have h2:=h.call (qhum W D);refine⟨h2.low,fun x hx=>?_,List.pairwise_cons.2 ⟨fun x hx=>lt_of_block (h.row x hx).2,h.dif⟩⟩;rcases List.mem_cons.1 hx with rfl|hx
 ·exact⟨h.low.size,setRow_heap _ _ _ D _ _ (heap_alloc_new W (.cells pkZ 32))⟩
 ·exact h2.row x hx
theorem NmS.set{w W:World}{L:List (Nat×Array Value)}{g:Nat}{D:Array Value}(h:NmS w ((g,D)::L) W)(j:Nat)(v:Value):NmS w ((g,D.setIfInBounds j v)::L) (W.setCell ⟨g,j,none⟩ v):=by
 have hg:=h.row (g,D) (List.mem_cons_self ..);have hd:=List.pairwise_cons.1 h.dif;refine⟨h.low.setCell (p:=⟨g,j,none⟩) hg.1 v,fun x hx=>?_,List.pairwise_cons.2 hd⟩;rcases List.mem_cons.1 hx with rfl|hx
 ·exact⟨hg.1,qlvy hg.2 j v⟩
 ·have hx2:=h.row x (List.mem_cons_of_mem _ hx);exact⟨hx2.1,(heap_setCell_other W ⟨g,j,none⟩ _ v (show x.1≠g from Nat.ne_of_lt (hd.1 x hx))).trans hx2.2⟩
theorem NmS.drew{w W:World}{L:List (Nat×Array Value)}(h:NmS w L W):NmS w L W.drew:=⟨h.low.drew,h.row,h.dif⟩
theorem NmS.hd{w W:World}{L:List (Nat×Array Value)}{g:Nat}{D:Array Value}(h:NmS w ((g,D)::L) W):W.heap[g]?=some (.cells D 32 (0,0)):=(h.row (g,D) (List.mem_cons_self ..)).2
theorem NmS.cell{w W:World}{L:List (Nat×Array Value)}{g:Nat}{D:Array Value}(h:NmS w ((g,D)::L) W)(j:Nat):W.cell? ⟨g,j,none⟩=D[j]? := cell_of_row _ _ j _ _ _ h.hd
theorem NmS.open{w W:World}{L:List (Nat×Array Value)}{g:Nat}{D:Array Value}(h:NmS w ((g,D)::L) W)(j:Nat):W.frozen? ⟨g,j,none⟩=false:=frozen_of_row _ _ _ _ _ h.hd
end Go.Proofs.YtombgnfedafkjaaGreatDoor
