/- The region of subscribe.reader.props in which properties are read. No condition. -/
import Derived.BigQuiet
import Derived.Deep.DeepCutAuto
import Derived.OwnWalk
import Derived.WalkSmall
import Derived.Deep.LoopGhost
import Derived.Lib.IndexBytes
import Derived.Great.BuildSlice
import Derived.Test.YtbecggefmbpnoaaGreatDoorK09
import Derived.Test.YtbecggefmbpnoaaGreatDoorK39
import Derived.Test.YtbecggefmbpnoaaGreatDoorK10
import Derived.Test.YtbecggefmbpnoaaGreatDoorK36
import Derived.Test.YtbecggefmbpnoaaGreatDoorK38
import Derived.Test.YtbecggefmbpnoaaGreatDoorK31
import Derived.Test.YtbecggefmbpnoaaGreatDoorK16
import Derived.Test.YtbecggefmbpnoaaGreatDoorK23
import Derived.Test.YtbecggefmbpnoaaGreatDoorK05
import Derived.Test.YtbecggefmbpnoaaGreatDoorK11
namespace Go.Proofs.YtbecggefmbpnoaaGreatDoor
open Go.RowKit
section
variable{a:Act}{w:World}{d:Option Tmp}{p:String}{af:Array Edge}{gd:Option (Nat×Bool)}{x y z:Tmp}{r:TypeId}
end
section
variable{w W W':World}{cb:Nat}{s:ByteArray}{x:Cs}{v kind:Int}
theorem qq7p(w:World)(cb:Nat)(v kind:Int):(w.alloc (.cells #[.pointer (some ⟨cb,0,none⟩),.int .i64 v,.int .i64 kind] 73)).heap[w.heap.size]? = some (.cells #[.pointer (some ⟨cb,0,none⟩),.int .i64 v,.int .i64 kind] 73 (0,0)):=heap_alloc_new w _
end
def fiZ:Array Value:=#[.string ⟨#[]⟩,.int .i64 0,.bool false,.bool false,.int .i64 0]
structure RoS(w:World)(cb:Nat)(v kind:Int)(s:ByteArray)(y:Cs)(W:World):Prop where
 lt:cb < w.heap.size
 g:w.grownBy W (some cb)
 bx:W.heap[w.heap.size]? = some (.cells #[.pointer (some ⟨cb,0,none⟩),.int .i64 v,.int .i64 kind] 73 (0,0))
 rs:W.heap[w.heap.size+1]? = some (.cells fiZ 32 (0,0))
 cs:CsAt W cb s y
section
variable{w W W':World}{cb:Nat}{s:ByteArray}{x y z:Cs}{v kind:Int}
theorem RoS.made(h:CsAt w cb s x):RoS w cb v kind s x ((w.alloc (.cells #[.pointer (some ⟨cb,0,none⟩),.int .i64 v,.int .i64 kind] 73)).alloc (.cells fiZ 32)):=
 ⟨h.lt,qo6d (World.grownBy_alloc _ _ _) (World.grownBy_alloc _ _ _),heap_alloc2_old _ _ _,heap_alloc2_new _ _ _,(h.alloc _).alloc _⟩
theorem RoS.call(h:RoS w cb v kind s y W)(hc:CsAt W' cb s z)(hg:W.grownBy W' (some cb)):RoS w cb v kind s z W':=
 ⟨h.lt,qo6d h.g hg,(hg.block _ (lt_of_block h.bx) (fun e=>by have:=Option.some.inj e;have:=h.lt;omega)).trans h.bx,(hg.block _ (lt_of_block h.rs) (fun e=>by have:=Option.some.inj e;have:=h.lt;omega)).trans h.rs,hc⟩
theorem RoS.below(h:RoS w cb v kind s y W)(hb:Below W.heap.size W W'):RoS w cb v kind s y W':=
 ⟨h.lt,qo6d h.g (q9cp hb _),(hb.block _ (lt_of_block h.bx)).trans h.bx,(hb.block _ (lt_of_block h.rs)).trans h.rs,h.cs.below hb⟩
theorem RoS.cell(h:RoS w cb v kind s y W)(j:Nat):W.cell? ⟨w.heap.size,j,none⟩=(#[Value.pointer (some ⟨cb,0,none⟩),.int .i64 v,.int .i64 kind]:Array Value)[j]? := cell_of_row _ _ j _ _ _ h.bx
end
section
variable{w W W':World}{cb:Nat}{s:ByteArray}{x y z:Cs}{v kind:Int}
end
structure LsS(w:World)(cb:Nat)(v kind:Int)(s:ByteArray)(t:TypeId)(k n:Nat)(xs:List Value)(val:Value)(y:Cs)(W:World):Prop where
 lt:cb < w.heap.size
 g:w.grownBy W (some cb)
 bx:W.heap[w.heap.size]? = some (.cells #[.pointer (some ⟨cb,0,none⟩),.int .i64 v,.int .i64 kind] 73 (0,0))
 cs:CsAt W cb s y
 own:W.ownsRow (w.heap.size+1) t k val n xs
section
variable{w W W':World}{cb:Nat}{s:ByteArray}{x y z:Cs}{v kind:Int}{t:TypeId}{k n:Nat}{xs:List Value}{val:Value}
theorem LsS.made(h:CsAt w cb s x):LsS w cb v kind s t k 0 [] (.slice none 0 0) x (w.alloc (.cells #[.pointer (some ⟨cb,0,none⟩),.int .i64 v,.int .i64 kind] 73)):=
 ⟨h.lt,World.grownBy_alloc _ _ _,qq7p _ _ _ _,h.alloc _,World.ownsRow_nil _ _ _ _⟩
theorem LsS.call(h:LsS w cb v kind s t k n xs val y W)(hc:CsAt W' cb s z)(hg:W.grownBy W' (some cb)):LsS w cb v kind s t k n xs val z W':=
 ⟨h.lt,qo6d h.g hg,(hg.block _ (lt_of_block h.bx) (fun e=>by have:=Option.some.inj e;have:=h.lt;omega)).trans h.bx,hc,h.own.kept hg (.inr fun e=>by have:=(h.own.lt _ e).1;have:=h.lt;omega)⟩
theorem LsS.draws(h:LsS w cb v kind s t k n xs val y W)(j:Nat):LsS w cb v kind s t k n xs val y (W.drewN j):=
 h.call (h.cs.draws j) (q9cp (qnpu (Below.refl _ _) j) _)
theorem LsS.cell(h:LsS w cb v kind s t k n xs val y W)(j:Nat):W.cell? ⟨w.heap.size,j,none⟩=(#[Value.pointer (some ⟨cb,0,none⟩),.int .i64 v,.int .i64 kind]:Array Value)[j]? := cell_of_row _ _ j _ _ _ h.bx
theorem LsS.more(h:LsS w cb v kind s t k n xs val y W)(o:Obj){m:Nat}{ys:List Value}{val':Value}(hown:W'.ownsRow (w.heap.size+1) t k val' m ys)(hg:(W.alloc o).grownBy W' val.ownBlock):LsS w cb v kind s t k m ys val' y W':=by
 have hb:∀j,val.ownBlock=some j→w.heap.size+1≤j:=fun j e=>(h.own.lt j e).1
 have lb:=lt_of_block h.bx
 refine⟨h.lt,⟨hg.os.trans h.g.os,hg.tape.trans h.g.tape,hg.output.trans h.g.output,?_,fun j hj hne=>?_⟩,?_,?_,hown⟩
 ·have h1:=hg.size;have h2:=h.g.size;simp at h1;omega
 ·rw[hg.block j (by have:=h.g.size;simp;omega) (fun e=>by have:=hb j e.symm;omega),heap_alloc_old _ _ (by have:=h.g.size;omega)]
  exact h.g.block j hj hne
 ·rw[hg.block _ (by simp;omega) (fun e=>by have:=hb _ e.symm;omega),heap_alloc_old _ _ lb]
  exact h.bx
 ·refine h.cs.of_block ?_
  have:=h.lt
  rw[hg.block cb (by simp;omega) (fun e=>by have:=hb _ e.symm;omega),heap_alloc_old _ _ (by omega)]
end
section
variable{w W W':World}{cb:Nat}{s:ByteArray}{x y z:Cs}{v kind:Int}
end
section
variable{a:Act}{w:World}{d:Option Tmp}{p:String}{af:Array Edge}{gd:Option (Nat×Bool)}{x y z:Tmp}{r:TypeId}
end
section
variable{w W W':World}{cb:Nat}{s:ByteArray}{x y z:Cs}{v kind:Int}
end
def XG:=Bool×Option Nat×Bool
def xn(x:XG):Bool:=x.1
def xa(x:XG):Option Nat:=x.2.1
def xs(x:XG):Bool:=x.2.2
section
variable{a:Act}{w:World}{d:Option Tmp}{p:String}{af:Array Edge}{gd:Option (Nat×Bool)}{x y z:Tmp}{r:TypeId}
end
structure SpS(w:World)(cb:Nat)(v kind:Int)(s:ByteArray)(b:Nat)(y:Cs)(P:Pk)(a:Ad)(W:World):Prop where
 lt:cb < w.heap.size
 g:w.grownBy W (some cb)
 bx:W.heap[w.heap.size]? = some (.cells #[.pointer (some ⟨cb,0,none⟩),.int .i64 v,.int .i64 kind] 73 (0,0))
 rs:W.heap[w.heap.size+1]? = some (.cells pkZ 29 (0,0))
 hb:w.heap.size+1 < b
 pk:W.heap[b]? = some (.cells (pkC P a) 29 (0,0))
 cs:CsAt W cb s y
 ps:PL W a.ps P.props
 cl:CL W a.cs (ics P.codes)
 fl:CL W a.fs (fcs P.filters)
 ap:∀g i,a.ps=some ⟨g,i,none⟩∨a.cs=some ⟨g,i,none⟩∨a.fs=some ⟨g,i,none⟩→b < g
 pc:P.props.length≤a.pc
section
variable{w W W':World}{cb b:Nat}{s:ByteArray}{x y z:Cs}{v kind:Int}{P P':Pk}{a a':Ad}
theorem SpS.call(h:SpS w cb v kind s b y P a W)(hc:CsAt W' cb s z)(hg:W.grownBy W' (some cb)):SpS w cb v kind s b z P a W':=by
 have o:∀k,k < W.heap.size→k≠cb→W'.heap[k]? = W.heap[k]? := fun k hk hne=>hg.block k hk (fun e=>hne (Option.some.inj e))
 have lt:=h.lt
 have hb:=h.hb
 refine⟨lt,qo6d h.g hg,(o _ (lt_of_block h.bx) (by omega)).trans h.bx,(o _ (lt_of_block h.rs) (by omega)).trans h.rs,hb,(o _ (lt_of_block h.pk) (by omega)).trans h.pk,hc,?_,?_,?_,h.ap,h.pc⟩
 ·exact h.ps.grown hg (fun g i e=>by have:=h.ap g i (.inl e);omega)
 ·exact h.cl.kept hg.size (fun g i e hlt=>o g hlt (by have:=h.ap g i (.inr (.inl e));omega))
 ·exact h.fl.kept hg.size (fun g i e hlt=>o g hlt (by have:=h.ap g i (.inr (.inr e));omega))
theorem SpS.cell(h:SpS w cb v kind s b y P a W)(j:Nat):W.cell? ⟨w.heap.size,j,none⟩=(#[Value.pointer (some ⟨cb,0,none⟩),.int .i64 v,.int .i64 kind]:Array Value)[j]? := cell_of_row _ _ j _ _ _ h.bx
theorem SpS.fr(h:SpS w cb v kind s b y P a W)(j:Nat):W.frozen? ⟨b,j,none⟩=false:=frozen_of_row _ _ _ _ _ h.pk
theorem SpS.set(h:SpS w cb v kind s b y P a W)(j:Nat)(u:Value)(he:(pkC P a).setIfInBounds j u=pkC P' a')
 (ps:PL W a'.ps P'.props) (cl:CL W a'.cs (ics P'.codes)) (fl:CL W a'.fs (fcs P'.filters)) (ap:∀g i,a'.ps=some ⟨g,i,none⟩∨a'.cs=some ⟨g,i,none⟩∨a'.fs=some ⟨g,i,none⟩→b < g) (pc:P'.props.length≤a'.pc) :
 SpS w cb v kind s b y P' a' (W.setCell ⟨b,j,none⟩ u):=by
 have o:∀k,k≠b→(W.setCell ⟨b,j,none⟩ u).heap[k]? = W.heap[k]? := fun k hk=>heap_setCell_other W ⟨b,j,none⟩ k u hk
 have sz:W.heap.size≤(W.setCell ⟨b,j,none⟩ u).heap.size:=by simp[World.setCell]
 have lt:=h.lt
 have hb:=h.hb
 refine⟨lt,⟨h.g.os,h.g.tape,h.g.output,Nat.le_trans h.g.size sz,fun k hk hne=>(o k (by omega)).trans (h.g.block k hk hne)⟩,(o _ (by omega)).trans h.bx,(o _ (by omega)).trans h.rs,hb,?_,h.cs.of_block (o _ (by omega)),?_,?_,?_,ap,pc⟩
 ·have:=qlvy h.pk j u;rw[he] at this;exact this
 ·exact ps.kept sz (fun g i e _=>o g (by have:=ap g i (.inl e);omega))
 ·exact cl.kept sz (fun g i e _=>o g (by have:=ap g i (.inr (.inl e));omega))
 ·exact fl.kept sz (fun g i e _=>o g (by have:=ap g i (.inr (.inr e));omega))
structure SwS(w:World)(cb:Nat)(v kind:Int)(s:ByteArray)(y z:Cs)(D:Array Value)(x:XG)(W:World):Prop where
 lt:cb < w.heap.size
 g:w.grownBy W (some cb)
 bx:W.heap[w.heap.size]? = some (.cells #[.pointer (some ⟨cb,0,none⟩),.int .i64 v,.int .i64 kind] 73 (0,0))
 rs:W.heap[w.heap.size+1]? = some (.cells pkZ 29 (0,0))
 cs:CsAt W cb s (if xn x then z else y)
 pk:∀b,xa x=some b→w.heap.size+1 < b∧W.heap[b]? = some (.cells (if xs x then D else pkZ) 29 (0,0))
theorem SwS.cell{D:Array Value}{q:XG}(h:SwS w cb v kind s y z D q W)(j:Nat):W.cell? ⟨w.heap.size,j,none⟩=(#[Value.pointer (some ⟨cb,0,none⟩),.int .i64 v,.int .i64 kind]:Array Value)[j]? := cell_of_row _ _ j _ _ _ h.bx
theorem SwS.num{D:Array Value}{g:Option Nat}(h:SwS w cb v kind s y z D (false,g,false) W)(hc:CsAt W' cb s z)(hg:W.grownBy W' (some cb)):SwS w cb v kind s y z D (true,g,false) W':=by
 have o:∀k,k < W.heap.size→k≠cb→W'.heap[k]? = W.heap[k]? := fun k hk hne=>hg.block k hk (fun e=>hne (Option.some.inj e))
 have lt:=h.lt
 refine⟨lt,qo6d h.g hg,(o _ (lt_of_block h.bx) (by omega)).trans h.bx,(o _ (lt_of_block h.rs) (by omega)).trans h.rs,hc,fun b hb=>?_⟩
 obtain⟨h1,h2⟩:=h.pk b hb
 exact⟨h1,(o b (lt_of_block h2) (by omega)).trans h2⟩
theorem SwS.put{D:Array Value}{b:Nat}(h:SwS w cb v kind s y z D (true,some b,false) W):SwS w cb v kind s y z D (true,some b,true) (W.setRow b D):=by
 obtain⟨h1,h2⟩:=h.pk b rfl
 have lt:=h.lt
 refine⟨lt,qacl h.g (by omega) _,(setRow_other _ _ _ _ (by omega)).trans h.bx,(setRow_other _ _ _ _ (by omega)).trans h.rs,h.cs.of_block (setRow_other _ _ _ _ (by omega)),fun c hc=>?_⟩
 obtain rfl:b=c:=Option.some.inj hc
 exact⟨h1,setRow_heap _ _ _ _ _ _ h2⟩
end
end Go.Proofs.YtbecggefmbpnoaaGreatDoor
