/- A list of strings as it lies in memory. No condition. -/
import Derived.Test.YthhdhagenmcbeaaGreatK02
import Derived.Test.YthhdhagenmcbeaaGreatK10
import Derived.Test.YthhdhagenmcbeaaGreatK11
namespace Go.Proofs.YthhdhagenmcbeaaGreat
open Go.RowKit
def strs(ls:List (List UInt8)):List Value:=ls.map fun l => .string (bs l)
def SR(W:World)(A:Option Addr)(ls:List (List UInt8)):Prop:=
 ls≠[]→∃g i,A=some ⟨g,i,none⟩∧g < W.heap.size∧∀j,j < ls.length→W.cell? ⟨g,i+j,none⟩=some (.string (bs (ls.getD j [])))
theorem SR.kept{W W':World}{A:Option Addr}{ls:List (List UInt8)}(h:SR W A ls)(hb:Below W.heap.size W W'):SR W' A ls:=fun hne=>by
 obtain⟨g,i,e,hg,hc⟩:=h hne
 exact⟨g,i,e,Nat.lt_of_lt_of_le hg hb.size,fun j hj=>(hb.cell (p:=⟨g,i+j,none⟩) hg).trans (hc j hj)⟩
theorem SR.draws{W:World}{A:Option Addr}{ls:List (List UInt8)}(h:SR W A ls)(n:Nat):SR (W.drewN n) A ls:=h
theorem SR.nil{W:World}{A:Option Addr}:SR W A []:=fun h=>absurd rfl h
theorem qx4f(ls:List (List UInt8))(j:Nat)(h:j < ls.length):(strs ls).toArray[j]? = some (.string (bs (ls.getD j []))):=by
 simp[strs,List.getD,List.getElem?_eq_getElem h]
theorem SR.alloc{W:World}{ls:List (List UInt8)}(t:TypeId):SR (W.alloc (.cells (strs ls).toArray t)) (some ⟨W.heap.size,0,none⟩) ls:=fun _=>
 ⟨_,_,rfl,by simp,fun j hj=>by rw[Nat.zero_add,World.cell?_alloc_at _ _ _ _ rfl];exact qx4f ls j hj⟩
theorem qkd1(l:List UInt8):(bs l).data.toList=l:=rfl
theorem q5zk(l:List UInt8):(bs l).size=l.length:=by simp[bs,ByteArray.size]
end Go.Proofs.YthhdhagenmcbeaaGreat
namespace Go.Proofs.YthhdhagenmcbeaaGreat
def qcsi(l:List Pr)(id:Int):Nat:=(l.filter fun p=>p.id==id).length
theorem qrb9(id:Int):qcsi [] id=0:=rfl
theorem qpwp(p:Pr)(l:List Pr)(id:Int):qcsi (p::l) id=qcsi l id+if p.id=id then 1 else 0:=by
 unfold qcsi
 rw[List.filter_cons]
 by_cases h:p.id=id
 ·simp[h]
 ·simp[h]
theorem q8m3(a b:List Pr)(id:Int):qcsi (a++b) id=qcsi a id+qcsi b id:=by simp[qcsi]
theorem qam1(l:List Pr)(id:Int):hasP l id=decide (0 < qcsi l id):=by
 induction l with
 | nil=>rfl
 | cons p l ih=>
  rw[qpwp]
  unfold hasP at ih ⊢
  rw[List.any_cons,ih]
  by_cases h:p.id=id
  ·simp[h]
  ·simp[h]
def qjrw(kind:Int)(l:List Pr):Prop:=(∀p∈l,qr4y kind p=0)∧∀id,quux kind id=false→qcsi l id≤1
theorem q0uh(kind:Int):∀(l pre:List Pr),(∀id,quux kind id=false→qcsi pre id≤1)→(q09m kind pre l=0↔(∀p∈l,qr4y kind p=0)∧∀id,quux kind id=false→qcsi (pre++l) id≤1)
 | [],pre,hp=>by simp[q09m];exact hp
 | p::l,pre,hp=>by
  rw[q09m]
  by_cases hc:qr4y kind p=0
  ·rw[if_neg (by simp[hc])]
   by_cases ht:qxv1 kind pre p.id=true
   ·rw[if_pos ht]
    constructor
    ·intro h;cases h
    ·rintro⟨_,h2⟩
     exfalso
     unfold qxv1 at ht
     rw[qam1] at ht
     simp only[Bool.and_eq_true,decide_eq_true_eq,Bool.not_eq_true'] at ht
     have:=h2 p.id ht.2
     rw[q8m3,qpwp,if_pos rfl] at this
     omega
   ·rw[if_neg ht]
    have ht:hasP pre p.id=false∨quux kind p.id=true:=by
     unfold qxv1 at ht
     cases h1:hasP pre p.id<;>cases h2:quux kind p.id<;>simp_all
    have hp':∀id,quux kind id=false→qcsi (pre++[p]) id≤1:=fun id hid=>by
     rw[q8m3,qpwp,qrb9]
     by_cases e:p.id=id
     ·subst e
      rcases ht with h | h
      ·rw[qam1,decide_eq_false_iff_not] at h
       rw[if_pos rfl];omega
      ·rw[hid] at h;cases h
     ·rw[if_neg e];have:=hp id hid;omega
    rw[q0uh kind l (pre++[p]) hp',List.append_assoc,List.singleton_append]
    constructor
    ·rintro⟨h1,h2⟩
     exact⟨fun q hq=>by
      rcases List.mem_cons.1 hq with rfl | hq
      ·exact hc
      ·exact h1 q hq,h2⟩
    ·rintro⟨h1,h2⟩
     exact⟨fun q hq=>h1 q (List.mem_cons_of_mem _ hq),h2⟩
  ·rw[if_pos hc]
   constructor
   ·intro h;exact absurd h hc
   ·rintro⟨h1,_⟩;exact absurd (h1 p (List.mem_cons_self ..)) hc
theorem qrcn(kind:Int)(l:List Pr):q09m kind [] l=0↔qjrw kind l:=by
 rw[q0uh kind l [] (fun id _=>by rw[qrb9];omega),List.nil_append];exact Iff.rfl
theorem qgl5(kind:Int)(l:List Pr):qpyu kind l=0↔l.length≤1000∧qjrw kind l∧qwyx l=false∧(q636 l).length≤268435455:=by
 rw[←qrcn]
 constructor
 ·exact qpfx
 ·rintro⟨h1,h2,h3,h4⟩
  unfold qpyu
  rw[if_neg (by omega),if_neg (by simp[h2]),if_neg (by simp[h3]),if_neg (by omega)]
def qzno(v kind code:Int)(l:List Pr):List UInt8:=
 if v=5∧(code≠0∨l≠[]) then UInt8.ofNat code.toNat::(if l≠[] then(q5aq kind l).1 else []) else []
def qiby(p:Pk):Pk:={Pk.zero with kind:=p.kind,id:=p.id,code:=p.code,props:=p.props}
def qvya(k:Int):Bool:=decide (4≤k)&&decide (k≤7)
def okA(v:Int)(p:Pk):Bool:=
 versC v&&qvya p.kind&&decide (p=qiby p)&&!(v==4&&!(p.code==0&&p.props.isEmpty))&&(decide (1≤p.id)&&decide (p.id≤65535))&&mayR p.kind p.code
def qryp(v:Int)(p:Pk):Nat:=if okA v p=false then 2 else qfk9 v p.kind p.props
def rawA(v:Int)(p:Pk):List UInt8:=be p.id.toNat 2++qzno v p.kind p.code p.props
def q04h(v:Int)(p:Pk):List UInt8×Nat:=if qryp v p≠0 then([],qryp v p) else(rawA v p,0)
def Cs.rest(s:Cs)(v kind:Int):(Nat×List Pr)×Cs:=
 if v≠5∨s.e≠0∨s.r=[] then((0,[]),s)
 else
  let c:=s.num 1
  let p:=if c.2.r=[] then([],c.2) else c.2.props v kind
  ((c.1,p.1),if p.2.e=0∧p.2.r=[]∧qzno v kind c.1 p.1≠s.r then p.2.fail 5 else p.2)
def qngm(v kind:Int)(s:Cs):Pk×Cs:=
 let i:=s.num 2
 let r:=i.2.rest v kind
 ({Pk.zero with kind:=kind,id:=(i.1:Nat),code:=(r.1.1:Nat),props:=r.1.2},r.2)
def q9uf(v kind:Int)(l:List UInt8):Pk×Nat:=
 if (versC v&&qvya kind)=false then(Pk.zero,2)
 else
  let x:=qngm v kind ⟨l,0⟩
  let s:=qveh x.2 (qryp v x.1)
  if s.e≠0 then(Pk.zero,s.e) else(x.1,0)
theorem qaiv{k c:Int}(h:mayR k c=true):0≤c∧c < 163:=by
 simp only[mayR,Bool.and_eq_true,decide_eq_true_eq] at h
 have:=q5yb (grp k) (qljz k) c.toNat (by simpa using h.2)
 omega
theorem qwnm{kind:Int}{l:List Pr}(h:qpyu kind l=0):(q5aq kind l).1≠[]:=by
 unfold q5aq
 rw[if_neg (by simp[h])]
 obtain⟨_,_,_,h4⟩:=qpfx h
 intro e
 have e:=congrArg List.length e
 rw[List.length_append,q8sw,List.length_nil] at e
 have:=qnl4 (q636 l).length h4
 omega
theorem ok_a{v:Int}{p:Pk}(h:okA v p=true):(v=4∨v=5)∧(4≤p.kind∧p.kind≤7)∧p=qiby p∧(v=4→p.code=0∧p.props=[])∧(1≤p.id∧p.id≤65535)∧mayR p.kind p.code=true:=by
 unfold okA at h
 simp only[Bool.and_eq_true,Bool.or_eq_true,beq_iff_eq,decide_eq_true_eq,versC,qvya] at h
 obtain⟨⟨⟨⟨⟨hv,hk⟩,hu⟩,h4⟩,hi⟩,hm⟩:=h
 refine⟨hv,hk,hu,fun e=>?_,hi,hm⟩
 subst e
 simpa using h4
theorem q858{v:Int}{p:Pk}(h:qryp v p=0):okA v p=true∧qfk9 v p.kind p.props=0:=by
 rw[qryp] at h
 split at h
 ·cases h
 ·rename_i h1;exact⟨by simpa using h1,h⟩
theorem q7a6{v k:Int}{c:Int}{l:List Pr}(h0:0≤c)(h1:c < 256)(h4:v≠5→c=0∧l=[])(hr:qfk9 v k l=0):(Cs.mk (qzno v k c l) 0).rest v k=((c.toNat,l),⟨[],0⟩):=by
 by_cases hv:v=5
 ·subst hv
  have hr:qpyu k l=0:=hr
  have e1:∀t,(Cs.mk (UInt8.ofNat c.toNat::t) 0).num 1=(c.toNat,⟨t,0⟩):=fun t=>Cs.one_app (by omega)
  have hc:((c.toNat:Nat):Int)=c:=by omega
  by_cases hl:l=[]
  ·subst hl
   by_cases hz:c=0
   ·subst hz;rfl
   ·have hs:qzno 5 k c []=[UInt8.ofNat c.toNat]:=by simp[qzno,hz]
    rw[hs]
    simp only[Cs.rest,e1,hc,if_true,hs]
    simp
  ·have hs:qzno 5 k c l=UInt8.ofNat c.toNat::(q5aq k l).1:=by simp[qzno,hl]
   have hp:(Cs.mk (q5aq k l).1 0).props 5 k=(l,⟨[],0⟩):=by
    have:=Cs.props_app (v:=5) (kind:=k) (l:=l) (t:=[]) hr (fun e=>absurd rfl e)
    rwa [qasq,if_pos rfl,List.append_nil] at this
   rw[hs]
   simp only[Cs.rest,e1,if_neg (qwnm hr),hp,hc,hs]
   simp
 ·obtain⟨rfl,rfl⟩:=h4 hv
  simp[Cs.rest,qzno,hv]
theorem qv5p{v:Int}{p:Pk}(h:qryp v p=0):q9uf v p.kind (rawA v p)=(p,0):=by
 obtain⟨h0,hr⟩:=q858 h
 obtain⟨hv,hk,hu,h4,hi,hm⟩:=ok_a h0
 obtain⟨c0,c1⟩:=qaiv hm
 have h1:(versC v&&qvya p.kind)=true:=by
  rw[Bool.and_eq_true]
  exact⟨by rcases hv with rfl | rfl<;>rfl,by simp[qvya,hk]⟩
 have hn:((p.id.toNat:Nat):Int)=p.id:=by omega
 have hc:((p.code.toNat:Nat):Int)=p.code:=by omega
 have hx:qngm v p.kind ⟨rawA v p,0⟩=(p,⟨[],0⟩):=by
  simp only[qngm,rawA,Cs.num_app (show p.id.toNat < 256^2 by omega),q7a6 c0 (by omega) (fun e=>h4 (by omega)) hr,hn,hc]
  refine Prod.ext ?_ rfl
  conv=>rhs;rw[hu]
  rfl
 simp only[q9uf,h1,hx,h]
 simp[qveh,Cs.fail]
theorem q0lq{x:Cs}{f:Nat}(h:(qveh x f).e=0):x.e=0∧x.r=[]∧f=0:=by
 unfold qveh at h
 obtain⟨h1,h2⟩:=qemw h
 by_cases hx:x.e=0∧x.r≠[]
 ·rw[if_pos hx] at h1
  exact absurd (qemw h1).2 (by decide)
 ·rw[if_neg hx] at h1
  refine⟨h1,?_,h2⟩
  by_cases hr:x.r=[]
  ·exact hr
  ·exact absurd ⟨h1,hr⟩ hx
theorem qgvz{v k:Int}{l:List UInt8}(h:(q9uf v k l).2=0):qryp v (q9uf v k l).1=0∧rawA v (q9uf v k l).1=l∧(q9uf v k l).1.kind=k:=by
 unfold q9uf at h ⊢
 split at h
 ·cases h
 rename_i h1
 rw[if_neg h1]
 simp only at h ⊢
 split at h
 ·rename_i h2;exact absurd h h2
 rename_i h2
 rw[if_neg h2]
 have h2:(qveh (qngm v k ⟨l,0⟩).2 (qryp v (qngm v k ⟨l,0⟩).1)).e=0:=by simpa using h2
 obtain⟨h3,h4,h5⟩:=q0lq h2
 refine⟨h5,?_,rfl⟩
 obtain⟨i,hi⟩:∃i,(Cs.mk l 0).num 2=i:=⟨_,rfl⟩
 obtain⟨r,hr⟩:∃r,i.2.rest v k=r:=⟨_,rfl⟩
 have hx:qngm v k ⟨l,0⟩=({Pk.zero with kind:=k,id:=(i.1:Nat),code:=(r.1.1:Nat),props:=r.1.2},r.2):=by subst hi hr;rfl
 rw[hx] at h3 h4 ⊢
 have h3:r.2.e=0:=h3
 have h4:r.2.r=[]:=h4
 have hs:i.2.e=0∧qzno v k (r.1.1:Nat) r.1.2=i.2.r:=by
  unfold Cs.rest at hr
  split at hr
  ·rename_i hc
   subst hr
   refine⟨h3,?_⟩
   have h4:i.2.r=[]:=h4
   rw[h4]
   simp[qzno]
  ·rename_i hc
   have he:i.2.e=0:=by
    by_cases he:i.2.e=0
    ·exact he
    ·exact absurd (.inr (.inl he)) hc
   refine⟨he,?_⟩
   simp only at hr
   obtain⟨p,hp⟩:∃p,(if (i.2.num 1).2.r=[] then([],(i.2.num 1).2) else(i.2.num 1).2.props v k)=p:=⟨_,rfl⟩
   rw[hp] at hr
   subst hr
   simp only at h3 h4 ⊢
   by_cases hw:p.2.e=0∧p.2.r=[]∧qzno v k (i.2.num 1).1 p.1≠i.2.r
   ·rw[if_pos hw] at h3
    exact absurd (qemw h3).2 (by decide)
   ·rw[if_neg hw] at h3 h4
    by_cases he:qzno v k (i.2.num 1).1 p.1=i.2.r
    ·exact he
    ·exact absurd ⟨h3,h4,he⟩ hw
 have hb:=Cs.num_back (s:=Cs.mk l 0) (n:=2) (by rw[hi];exact hs.1)
 rw[hi] at hb
 have e:l=be i.1 2++i.2.r:=hb.2.1
 rw[e,←hs.2]
 rfl
theorem qws7{v:Int}{p:Pk}(h:qryp v p=0):((rawA v p).length=2↔p.code=0∧p.props=[])∧((rawA v p).length=3↔p.code≠0∧p.props=[]):=by
 obtain⟨h0,hr⟩:=q858 h
 obtain⟨hv,hk,hu,h4,hi,hm⟩:=ok_a h0
 have hl:(rawA v p).length=2+(qzno v p.kind p.code p.props).length:=by rw[rawA,List.length_append,q0rl]
 rw[hl]
 rcases hv with rfl | rfl
 ·obtain⟨a,b⟩:=h4 rfl
  simp[qzno,a,b]
 ·have hb:=qwnm (show qpyu p.kind p.props=0 from hr)
  by_cases hp:p.props=[]
  ·by_cases hc:p.code=0<;>simp[qzno,hp,hc]
  ·have:0 < (q5aq p.kind p.props).1.length:=List.length_pos_iff.2 hb
   have hs:(qzno 5 p.kind p.code p.props).length=(q5aq p.kind p.props).1.length+1:=by simp[qzno,hp]
   rw[hs]
   simp only[hp,and_false,iff_false]
   omega
theorem qjfk{kind:Int}{s:List UInt8}(h:(qflw kind s).2.2≠0):qflw kind s=([],0,(qflw kind s).2.2):=by
 unfold qflw at *
 repeat' split
 all_goals first | rfl | skip
 all_goals
  rename_i h1 h2 h3 h4
  rw[if_neg h1,if_neg h2,if_neg h3,if_neg h4] at h
  exact absurd rfl h
def necA(p:Pk):Nat:=if p.props≠[] then 2 else if p.code≠0 then 1 else 0
theorem qxhf(p:Pk):necA p=0∨necA p=1∨necA p=2:=by
 unfold necA
 by_cases h:p.props=[]
 ·by_cases h1:p.code=0<;>simp[h,h1]
 ·simp[h]
def qolc(kind:Int)(s:Cs):(Nat×List Pr×Nat)×Cs:=
 if s.r=[] then((0,[],0),s)
 else if (s.num 1).2.r=[] then(((s.num 1).1,[],1),(s.num 1).2)
 else(((s.num 1).1,(qflw kind (s.num 1).2.r).1,2),((s.num 1).2.take (qflw kind (s.num 1).2.r).2.1).2.fail (qflw kind (s.num 1).2.r).2.2)
def midB(v kind:Int)(s:Cs):(Nat×List Pr×Nat)×Cs:=if v=5∧s.e=0 then qolc kind s else((0,[],0),s)
def pkB(kind:Int)(i c:Nat)(l:List Pr):Pk:={Pk.zero with kind:=kind,id:=(i:Nat),code:=(c:Nat),props:=l}
def qts0(v kind:Int)(s:Cs):Pk×Cs:=
 let i:=s.num 2
 let t:=midB v kind i.2
 let p:=pkB kind i.1 t.1.1 t.1.2.1
 (p,if t.2.r≠[]∨necA p < t.1.2.2 then t.2.fail 5 else t.2)
theorem Cs.num_one{b:UInt8}{t:List UInt8}:(Cs.mk (b::t) 0).num 1=(b.toNat,⟨t,0⟩):=by
 have h:=Cs.num_app (k:=b.toNat) (c:=1) (t:=t) (by have:=b.toNat_lt;omega)
 have e:be b.toNat 1=[b]:=by simp[be]
 rw[e] at h
 exact h
theorem q1h8{kind:Int}{t:List UInt8}:((Cs.mk t 0).take (qflw kind t).2.1).2.fail (qflw kind t).2.2=⟨t.drop (qflw kind t).2.1,(qflw kind t).2.2⟩:=by
 have hle:(qflw kind t).2.1≤t.length:=by
  by_cases hF:(qflw kind t).2.2=0
  ·obtain⟨L,k,F,hq⟩:∃L k F,qflw kind t=(L,k,F):=⟨_,_,_,rfl⟩
   rw[hq] at hF ⊢
   have hF:F=0:=hF
   subst hF
   exact(qugf hq).2.1
  ·rw[qjfk hF];exact Nat.zero_le _
 have h:¬t.length < (qflw kind t).2.1:=by omega
 simp[Cs.take,Cs.fail,h]
theorem qhjx(x:Cs)(f:Nat):(qveh x f).e=if x.e≠0 then x.e else if x.r≠[] then 5 else f:=by
 unfold qveh Cs.fail
 by_cases he:x.e=0
 ·by_cases hr:x.r=[]
  ·simp[he,hr]
  ·simp[he,hr]
 ·simp[he]
def endB(p:Pk)(t:(Nat×List Pr×Nat)×Cs):Cs:=if t.2.r≠[]∨necA p < t.1.2.2 then t.2.fail 5 else t.2
theorem qiq9(y:Cs)(p:Pk)(f:Nat):(if y.e≠0 then y.e else if y.r≠[] then 5 else f)=if (endB p ((0,[],0),y)).e≠0 then(endB p ((0,[],0),y)).e else f:=by
 unfold endB Cs.fail
 by_cases he:y.e=0<;>by_cases hr:y.r=[]<;>simp[he,hr]
theorem qn1g(v kind:Int)(y:Cs):(midB v kind y).1.1=(y.rest v kind).1.1∧(midB v kind y).1.2.1=(y.rest v kind).1.2∧
 ∀i f,(if (y.rest v kind).2.e≠0 then(y.rest v kind).2.e else if (y.rest v kind).2.r≠[] then 5 else f)=
  if (endB (pkB kind i (midB v kind y).1.1 (midB v kind y).1.2.1) (midB v kind y)).e≠0 then(endB (pkB kind i (midB v kind y).1.1 (midB v kind y).1.2.1) (midB v kind y)).e else f:=by
 obtain⟨r,e⟩:=y
 unfold midB Cs.rest
 by_cases h5:v=5
 ·subst h5
  by_cases he:e=0
  ·subst he
   rw[if_pos ⟨rfl,rfl⟩]
   cases r with
   | nil=>
    rw[if_pos (.inr (.inr rfl))]
    exact⟨rfl,rfl,fun i f=>qiq9 _ _ _⟩
   | cons b t=>
    rw[if_neg (by simp)]
    unfold qolc
    rw[if_neg (show ¬(Cs.mk (b::t) 0).r=[] by simp)]
    simp only[Cs.num_one]
    cases t with
    | nil=>
     rw[if_pos rfl,if_pos rfl]
     refine⟨rfl,rfl,fun i f=>?_⟩
     unfold endB necA pkB qzno Cs.fail
     by_cases hz:b.toNat=0
     ·simp[hz]
     ·simp[hz]
    | cons c t=>
     rw[if_neg (by simp),if_neg (by simp),q1h8]
     obtain⟨L,k,F,hq⟩:∃L k F,qflw kind (c::t)=(L,k,F):=⟨_,_,_,rfl⟩
     have hp:(Cs.mk (c::t) 0).props 5 kind=(L,⟨(c::t).drop k,F⟩):=by simp[Cs.props,hq]
     rw[hp,hq]
     refine⟨rfl,rfl,fun i f=>?_⟩
     by_cases hF:F=0
     ·subst hF
      by_cases hd:(c::t).drop k=[]
      ·have hbk:=qugf hq
       have htk:(q5aq kind L).1=c::t:=by
        have h3:=hbk.2.2
        rw[List.take_of_length_le (List.drop_eq_nil_iff.1 hd)] at h3
        exact h3
       have hb:UInt8.ofNat ((b.toNat:Nat):Int).toNat=b:=by simp
       simp only[hd]
       unfold endB necA pkB qzno Cs.fail
       by_cases hL:L=[]
       ·subst hL
        by_cases hz:b.toNat=0
        ·simp[hz]
        ·simp[hz]
       ·have hs:(if (5:Int)=5∧(((b.toNat:Nat):Int)≠0∨L≠[]) then UInt8.ofNat ((b.toNat:Nat):Int).toNat::(if L≠[] then(q5aq kind L).1 else []) else [])=b::c::t:=by
         rw[if_pos ⟨rfl,.inr hL⟩,if_pos hL,hb,htk]
        rw[hs]
        simp[hL]
      ·unfold endB Cs.fail
       simp[hd]
     ·unfold endB Cs.fail
      simp[hF]
  ·rw[if_neg (fun h=>he h.2),if_pos (.inr (.inl he))]
   exact⟨rfl,rfl,fun i f=>qiq9 _ _ _⟩
 ·rw[if_neg (fun h=>h5 h.1),if_pos (.inl h5)]
  exact⟨rfl,rfl,fun i f=>qiq9 _ _ _⟩
theorem qye3(v kind:Int)(s:Cs):(qts0 v kind s).1=(qngm v kind s).1:=by
 obtain⟨h1,h2,_⟩:=qn1g v kind (s.num 2).2
 show pkB kind (s.num 2).1 (midB v kind (s.num 2).2).1.1 (midB v kind (s.num 2).2).1.2.1=pkB kind (s.num 2).1 ((s.num 2).2.rest v kind).1.1 ((s.num 2).2.rest v kind).1.2
 rw[h1,h2]
theorem q2qi(v kind:Int)(s:Cs)(f:Nat):(qveh (qngm v kind s).2 f).e=if (qts0 v kind s).2.e≠0 then(qts0 v kind s).2.e else f:=by
 rw[qhjx]
 exact(qn1g v kind (s.num 2).2).2.2 (s.num 2).1 f
theorem q96o(v kind:Int)(l:List UInt8):q9uf v kind l=if (versC v&&qvya kind)=false then(Pk.zero,2) else
 let x:=qts0 v kind ⟨l,0⟩
 let e:=if x.2.e=0 then qryp v x.1 else x.2.e
 if e≠0 then(Pk.zero,e) else(x.1,0):=by
 unfold q9uf
 split
 ·rfl
 ·simp only[q2qi,qye3]
  by_cases h:(qts0 v kind ⟨l,0⟩).2.e=0<;>simp[h]
end Go.Proofs.YthhdhagenmcbeaaGreat
