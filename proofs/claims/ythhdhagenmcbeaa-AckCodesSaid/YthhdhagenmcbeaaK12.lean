/- Plain facts: what an acknowledgement may hold, its body, what is read of it. No condition. -/
import Derived.Laws.ResultCell
import Derived.Test.YthhdhagenmcbeaaK11
import Derived.Test.YthhdhagenmcbeaaK07
import Derived.Test.YthhdhagenmcbeaaK03
import Derived.Test.YthhdhagenmcbeaaK02
namespace Go.Proofs.Ythhdhagenmcbeaa
def qzno(v kind code:Int)(l:List Pr):List UInt8:=
 if v=5∧(code≠0∨l≠[]) then UInt8.ofNat code.toNat::(if l≠[] then(q5aq kind l).1 else []) else []
def qiby(p:Pk):Pk:={Pk.zero with kind:=p.kind,id:=p.id,code:=p.code,props:=p.props}
def kindA(k:Int):Bool:=decide (4≤k)&&decide (k≤7)
def okA(v:Int)(p:Pk):Bool:=
 versC v&&kindA p.kind&&decide (p=qiby p)&&!(v==4&&!(p.code==0&&p.props.isEmpty))&&(decide (1≤p.id)&&decide (p.id≤65535))&&mayR p.kind p.code
def qryp(v:Int)(p:Pk):Nat:=if okA v p=false then 2 else qfk9 v p.kind p.props
def rawA(v:Int)(p:Pk):List UInt8:=be p.id.toNat 2++qzno v p.kind p.code p.props
def q04h(v:Int)(p:Pk):List UInt8×Nat:=if qryp v p≠0 then([],qryp v p) else(rawA v p,0)
def Cs.rest(s:Cs)(v kind:Int):(Nat×List Pr)×Cs:=
 if v≠5∨s.e≠0∨s.r=[] then((0,[]),s)
 else
  let c:=s.num 1
  let p:=if c.2.r=[] then([],c.2) else c.2.props v kind
  ((c.1,p.1),if p.2.e=0∧p.2.r=[]∧qzno v kind c.1 p.1≠s.r then p.2.fail 5 else p.2)
theorem qaiv{k c:Int}(h:mayR k c=true):0≤c∧c < 163:=by
 simp only[mayR,Bool.and_eq_true,decide_eq_true_eq] at h
 have:=q5yb (grp k) (qljz k) c.toNat (by simpa using h.2)
 omega
theorem ok_a{v:Int}{p:Pk}(h:okA v p=true):(v=4∨v=5)∧(4≤p.kind∧p.kind≤7)∧p=qiby p∧(v=4→p.code=0∧p.props=[])∧(1≤p.id∧p.id≤65535)∧mayR p.kind p.code=true:=by
 unfold okA at h
 simp only[Bool.and_eq_true,Bool.or_eq_true,beq_iff_eq,decide_eq_true_eq,versC,kindA] at h
 obtain⟨⟨⟨⟨⟨hv,hk⟩,hu⟩,h4⟩,hi⟩,hm⟩:=h
 refine⟨hv,hk,hu,fun e=>?_,hi,hm⟩
 subst e
 simpa using h4
theorem q858{v:Int}{p:Pk}(h:qryp v p=0):okA v p=true∧qfk9 v p.kind p.props=0:=by
 rw[qryp] at h
 split at h
 ·cases h
 ·rename_i h1;exact⟨by simpa using h1,h⟩
theorem qd7q{v k i c:Int}(hv:v=4∨v=5)(hk:4≤k∧k≤7):(qryp v {Pk.zero with kind:=k,id:=i,code:=c}=0↔(1≤i∧i≤65535)∧(if v=5 then mayR k c=true else c=0)):=by
 have hz:mayR k 0=true:=by
  obtain rfl | rfl | rfl | rfl:k=4∨k=5∨k=6∨k=7:=by omega
  all_goals decide+kernel
 have hr:qfk9 v k []=0:=by
  unfold qfk9
  split
  ·simp[qpyu,q09m,qwyx,q636,hasP]
  ·rfl
 constructor
 ·intro h
  obtain⟨_,_,_,h4,hi,hm⟩:=ok_a (q858 h).1
  refine⟨hi,?_⟩
  split
  ·exact hm
  ·exact(h4 (by omega)).1
 ·rintro⟨hi,hc⟩
  have h1:okA v {Pk.zero with kind:=k,id:=i,code:=c}=true:=by
   unfold okA
   simp only[Bool.and_eq_true,decide_eq_true_eq]
   have hkk:kindA k=true:=by simp[kindA,hk]
   rcases hv with rfl | rfl
   ·rw[if_neg (by decide)] at hc
    subst hc
    exact⟨⟨⟨⟨⟨rfl,hkk⟩,rfl⟩,rfl⟩,hi⟩,hz⟩
   ·rw[if_pos rfl] at hc
    exact⟨⟨⟨⟨⟨rfl,hkk⟩,rfl⟩,rfl⟩,hi⟩,hc⟩
  rw[qryp,h1,if_neg (by decide)]
  exact hr
end Go.Proofs.Ythhdhagenmcbeaa
namespace Go.Proofs.Ythhdhagenmcbeaa
open Go.RowKit
structure BxS(w:World)(p:Pk)(a:Ad)(W:World):Prop where
 low:Below w.heap.size w W
 box:W.heap[w.heap.size]? = some (.cells (pkC p a) 31 (0,0))
theorem BxS.made(w:World)(p:Pk)(a:Ad):BxS w p a (w.alloc (.cells (pkC p a) 31)):=⟨qybm _,heap_alloc_new _ _⟩
theorem BxS.call{w W W':World}{p:Pk}{a:Ad}(h:BxS w p a W)(hb:Below W.heap.size W W'):BxS w p a W':=⟨qxh2 h.low hb,(hb.block _ (lt_of_block h.box)).trans h.box⟩
theorem BxS.draw{w W:World}{p:Pk}{a:Ad}(h:BxS w p a W):BxS w p a W.drew:=⟨h.low.drew,h.box⟩
theorem BxS.cell{w W:World}{p:Pk}{a:Ad}(h:BxS w p a W)(j:Nat):W.cell? ⟨w.heap.size,j,none⟩=(pkC p a)[j]? := cell_of_row _ _ j _ _ _ h.box
end Go.Proofs.Ythhdhagenmcbeaa
