/- What SubscribeAnswers asks of plain packets. No condition. -/
import Derived.Deep.DeepCutAuto
import Derived.Great.BuildSlice
import Derived.OwnWalk
import Derived.Test.YtbecggefmbpnoaaGreatDoorK48
import Derived.Test.YtbecggefmbpnoaaGreatDoorK50
import Derived.Test.YtbecggefmbpnoaaGreatDoorK18
import Derived.Test.YtbecggefmbpnoaaGreatDoorK29
import Derived.Test.YtbecggefmbpnoaaGreatDoorK28
import Derived.Test.YtbecggefmbpnoaaGreatDoorK12
set_option maxRecDepth 100000
namespace Go.Proofs.YtbecggefmbpnoaaGreatDoor
open Go.RowKit
def ansS(i:Int)(c:List Int):Pk:={Pk.zero with kind:=9,id:=i,codes:=c}
def adC(A:Option Addr)(c:Nat):Ad:={adZ with cs:=A,cc:=c}
theorem qbm8{i:Int}{c:List Int}:PkOk (ansS i c):=by
 refine⟨by show _≤(9:Int)∧(9:Int)≤_;decide,by show _≤(0:Int)∧(0:Int)≤_;decide,fun t ht=>?_,fun x hx=>(nomatch hx),fun x hx=>(nomatch hx),fun x hx=>(nomatch hx)⟩
 have:t=[]:=by simpa [Pk.texts,Pk.zero,ansS] using ht
 rw[this];decide
theorem q4lq{W:World}{i:Int}{l:List Int}{A:Option Addr}{c:Nat}(h:CL W A (ics l)):PkAt W (ansS i l) (adC A c):=⟨fun e=>absurd rfl e,h,fun e=>absurd rfl e,fun e=>absurd rfl e⟩
theorem q2bq{i:Int}{l m:List Fi}{A A':Option Addr}{c c' n:Nat}(h:m.length=n):(pkC (askS i l) (adF A c)).setIfInBounds 23 (.slice A' n c')=pkC (askS i m) (adF A' c'):=by
 subst h;rfl
def bF:Fi:=⟨[98],1,true,true,2⟩
def unF:Fi:=⟨[97],0,false,false,0⟩
def badF:Fi:=⟨[97],1,false,false,0⟩
def shF:Fi:=⟨[36,115,104,97,114,101,47,103,47,97],0,true,false,0⟩
def fullPk:Pk:=askS 1 [oneF,bF]
def gotPk:Pk:=ansS 1 [2]
def unPk:Pk:={Pk.zero with kind:=10,id:=1,filters:=[unF]}
def gonePk:Pk:={Pk.zero with kind:=11,id:=1}
def sharedPk:Pk:=askS 1 [shF]
def badPk:Pk:={Pk.zero with kind:=10,id:=1,filters:=[badF]}
def qsdj:Pk:=ansS 1 [3]
def qmpf:List UInt8:=[0,1,0,0,3,97,47,35,2,0,1,98,45]
theorem qs9x:qktk 5 fullPk=(qmpf,0):=by decide+kernel
theorem qlcy:q98d 5 8 qmpf=(fullPk,0):=by decide+kernel
theorem qnow:(q98d 4 8 [0,1,0,1,98,4]).2=7:=by decide+kernel
theorem qtoh:(q98d 5 8 [0,1,0,0,1,98,64]).2=7:=by decide+kernel
theorem qvbn:(q98d 4 8 [0,1]).2=2:=by decide+kernel
theorem qo02:(q98d 4 8 [0,1,0,1,98]).2=3:=by decide+kernel
theorem qa53:(q98d 4 8 [0,1,0,2,98,43,0]).2=10:=by decide+kernel
theorem qw58:(q98d 4 8 [0,1,0,1,98,3]).2=2:=by decide+kernel
theorem qi0n:(q98d 5 8 [0,1,0,0,1,98,48]).2=2:=by decide+kernel
theorem qubc:qang bF=45:=by decide+kernel
theorem q0ba:qktk 4 unPk=([0,1,0,1,97],0):=by decide+kernel
theorem qd9q:qktk 4 gonePk=([0,1],0):=by decide+kernel
theorem qbgd:qoit 4 qucf gotPk=true:=by decide+kernel
theorem qx43:qoit 4 fullPk gotPk=false:=by decide+kernel
theorem qrbx:qoit 4 gotPk gotPk=false:=by decide+kernel
theorem qks1:qoit 4 unPk gonePk=true:=by decide+kernel
theorem qmz8:qoit 5 unPk gonePk=false:=by decide+kernel
theorem qe0t:q3m2 5 gonePk=2:=by decide+kernel
theorem qorc:q3m2 5 sharedPk=2:=by decide+kernel
theorem qy0d:q3m2 5 badPk=2:=by decide+kernel
theorem qdt3:q3m2 4 fullPk=2:=by decide+kernel
theorem qz9e:q3m2 4 qsdj=2:=by decide+kernel
structure RwS(w:World)(L:List (Nat×Pk×Ad))(W:World):Prop where
 low:Below w.heap.size w W
 row:∀x∈L,W.heap[x.1]? = some (.cells (pkC x.2.1 x.2.2) 29 (0,0))∧PkAt W x.2.1 x.2.2
section
variable{w W W':World}{L:List (Nat×Pk×Ad)}
theorem RwS.call(h:RwS w L W)(hb:Below W.heap.size W W'):RwS w L W':=
 ⟨qxh2 h.low hb,fun x hx=>⟨(hb.block _ (lt_of_block (h.row x hx).1)).trans (h.row x hx).1,(h.row x hx).2.below hb⟩⟩
theorem RwS.add(h:RwS w L W){g:Nat}{p:Pk}{a:Ad}(hr:W.heap[g]? = some (.cells (pkC p a) 29 (0,0)))(hp:PkAt W p a):RwS w ((g,p,a)::L) W:=
 ⟨h.low,fun x hx=>by
  rcases List.mem_cons.1 hx with rfl | hx
  ·exact⟨hr,hp⟩
  ·exact h.row x hx⟩
theorem RwS.put(h:RwS w L W)(p:Pk)(a:Ad)(hp:PkAt W p a):RwS w ((W.heap.size,p,a)::L) ((W.alloc (.cells pkZ 29)).setRow W.heap.size (pkC p a)):=
 (h.call (qhum W _)).add (setRow_heap _ _ _ _ _ _ (heap_alloc_new W _)) (hp.below (qhum W _))
theorem RwS.at_(h:RwS w L W)(x:Nat×Pk×Ad)(hx:x∈L):W.heap[x.1]? = some (.cells (pkC x.2.1 x.2.2) 29 (0,0)):=(h.row x hx).1
theorem RwS.pk(h:RwS w L W)(x:Nat×Pk×Ad)(hx:x∈L):PkAt W x.2.1 x.2.2:=(h.row x hx).2
end
theorem qabm{W:World}{g i:Nat}{cs:List Value}(h:CL W (some ⟨g,i,none⟩) cs){j:Nat}{u:Value}(hj:cs[j]? = some u):W.cell? ⟨g,i+j,none⟩=some u:=by
 obtain⟨g',i',e,_,hc⟩:=h (fun e=>by rw[e] at hj;simp at hj)
 cases e
 exact hc j u hj
theorem qv5v(v k:Int)(s:ByteArray){n:Nat}{E:Int}(hk:0≤k∧k≤100)(hm:s.size≤100)(h:(q98d v k s.data.toList).2=n)(hn:n≠0)(he:(n:Int)=E)(W:World) :
 Calls Tryz.prog 11 #[.int .i64 v,.int .i64 k,.string s] W fun e w'=>e = .returned (.tuple #[.agg pkZ,.int .i64 E])∧Below W.heap.size W w':=by
 refine(qmor v k s W (by omega) (by omega) (by omega) (qfe2 (by rw[←q4ad];omega))).mono ?_
 rintro e w' ⟨a,rfl,_,_,_,hb,hz⟩
 refine⟨?_,hb⟩
 have h0:(q98d v k s.data.toList).2≠0:=by rw[h];exact hn
 rw[hz h0,qz76 h0,h,he]
 rfl
theorem qwwg(p:Pk)(a b:Ad)(sp:q21o p)(W:World)(hp:PkAt W p a)(hq:PkAt W p b) :
 Calls Tryz.prog 12 #[.agg (pkC p a),.agg (pkC p b)] W fun e w'=>e = .returned (.bool true)∧Below W.heap.size W w':=
 (qbsf p a b W hp hq sp.1 sp.2.1 sp.2.2.1 sp.2.2.2).mono fun _ _ hh=>⟨hh.1,hh.2⟩
theorem RwS.made{w W:World}{L:List (Nat×Pk×Ad)}(h:RwS w L W)(O:Obj)(p:Pk)(a:Ad)(hp:PkAt (W.alloc O) p a):RwS w ((W.heap.size+1,p,a)::L) (((W.alloc O).alloc (.cells pkZ 29)).setRow (W.heap.size+1) (pkC p a)):=by
 have h2:=(h.call (qybm O)).put p a hp
 rw[World.size_alloc] at h2
 exact h2
theorem RwS.patch{w V V2:World}{L:List (Nat×Pk×Ad)}(h:RwS w L V)(b:Below V.heap.size V V2){B:Nat}{D cs:Array Value}{p:Pk}(hB:V.heap.size≤B)(G:V2.heap[B]? = some (.cells D 29 (0,0)))
 (hD:D.setIfInBounds 23 (.slice (some ⟨V2.heap.size,0,none⟩) 1 1)=pkC p (adF (some ⟨V2.heap.size,0,none⟩) 1)) (hc:fcs p.filters=cs.toList) (h1:p.codes=[]) (h2:p.props=[]) (h3:p.wProps=[]) :
 RwS w ((B,p,adF (some ⟨V2.heap.size,0,none⟩) 1)::L) ((V2.alloc (.cells cs 32)).setCell ⟨B,23,none⟩ (.slice (some ⟨V2.heap.size,0,none⟩) 1 1)):=by
 have hlt:=lt_of_block G
 have b2:Below V.heap.size V ((V2.alloc (.cells cs 32)).setCell ⟨B,23,none⟩ (.slice (some ⟨V2.heap.size,0,none⟩) 1 1)):=
  (qxh2 b (qybm _)).setCell (p:=⟨B,23,none⟩) hB _
 refine(h.call b2).add ?_ ⟨fun e=>absurd h3 e,fun e=>absurd (by rw[h1];rfl) e,?_,fun e=>absurd h2 e⟩
 ·have:=qlvy ((heap_alloc_old V2 (.cells cs 32) hlt).trans G) 23 (.slice (some ⟨V2.heap.size,0,none⟩) 1 1)
  rw[hD] at this
  exact this
 ·rw[hc]
  refine CL.of_cells (xs:=cs) (t:=32) ((heap_setCell_other _ ⟨B,23,none⟩ _ _ (show V2.heap.size≠B by omega)).trans (heap_alloc_new V2 _)) (fun j u hu=>by rw[←hu,Array.getElem?_toList])
theorem qkbi(w:World):Calls Tryz.prog 9 #[] w fun e w'=>∃g,e = .returned (.agg (pkC qucf (adF (some ⟨g,0,none⟩) 1)))∧w'.ownsRow w.heap.size 32 5 (.slice (some ⟨g,0,none⟩) 1 1) 1 (fcs [oneF])∧w.heap.size < g∧g < w'.heap.size∧Below w.heap.size w w':=by
 have hzv:=qrai
 have hne:¬pkZ=#[]:=by intro h;have:=qbwp;rw[h] at this;cases this
 have HZ:=Lib.hid qbwp
 go_enter Tryz.func9,Tryz.ntmps9
 have H1:=Lib.hid (qwmp qucf (adF (some ⟨w.heap.size+1,0,none⟩) 1))
 have H2:=Lib.hid (qmz0 qucf (adF (some ⟨w.heap.size+1,0,none⟩) 1))
 go_wp2_with (first
  | (refine wpList_buildTo rfl 29 _ rfl (some _) rfl (pkC qucf (adF (some ⟨w.heap.size+1,0,none⟩) 1)) (by kernel_rfl) ?_)
  | (refine wpList_store_row rfl _ _ _ rfl w.heap.size (pkC qucf (adF (some ⟨w.heap.size+1,0,none⟩) 1)) rfl rfl 29 _ (heap_alloc2_old _ _ _) (by rw[H1.out];exact q5nr) (by rw[HZ.out,H1.out]) H2.out ?_))
 refine q7wi rfl rfl rfl Tryz.underlying29 rfl (by rw[H1.out];exact q5nr) (setRow_heap _ _ _ _ _ _ (heap_alloc2_old _ _ _)) ⟨w.heap.size+1,rfl,?_,Nat.lt_succ_self _,by simp[World.setRow],q8xz (qxh2 (qybm _) (qybm _)) (Nat.le_refl _) _⟩
 exact⟨rfl,.inr ⟨w.heap.size+1,1,_,rfl,by omega,(setRow_other _ _ _ _ (by omega)).trans (heap_alloc2_new _ _ _),Nat.le_refl _,by unfold maxLen;omega,rfl,rfl⟩⟩
end Go.Proofs.YtbecggefmbpnoaaGreatDoor
