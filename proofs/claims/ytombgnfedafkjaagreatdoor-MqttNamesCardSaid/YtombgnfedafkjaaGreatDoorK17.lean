/- The load of a whole row by an operation that a guard may keep back. No program. Condition: none. -/
import Derived.Test.YtombgnfedafkjaaGreatDoorK07
import Derived.Test.YtombgnfedafkjaaGreatDoorK10
import Derived.Test.YtombgnfedafkjaaGreatDoorK12
set_option maxHeartbeats 2000000
set_option maxRecDepth 100000
namespace Go.Proofs.YtombgnfedafkjaaGreatDoor
open Lib(hid)
open Go.RowKit
theorem q2a5{P:Program}{ops:Array Oper}{rest:List Oper}{o:Oper}{a:Act}{w:World}{Q:Exit->Act->World->Prop}(hw:Region.wanted o (yielded ops a.tmps)=true)(ty:TypeId)(x:Operand)(ho:o.op=.load ty x)
 (g:Nat) (hx:a.eval x=.pointer (some ⟨g,0,none⟩)) (t:TypeId) (cs:Array Value) (fr:Nat×Nat) (d:TypeDesc) (hg:w.heap[g]?=some (.cells cs t fr))
 (hu:P.underlying ty=some d) (hd:(match d with|.struct _|.array _ _=>true|_=>false)=true) (hi:(P.info? ty).map (·.size)=some cs.size)
 (h:wpList P ops Q rest (a.put o.dst (.agg cs)) w):wpList P ops Q (o::rest) a w:=by
 unfold wpList;rw[if_pos hw];exact .inl (wp_load_row ty x ho g hx t cs fr d hg hu hd hi h)
structure BxS(w:World)(p:Pk)(a:Ad)(W:World):Prop where
 low:Below w.heap.size w W
 box:W.heap[w.heap.size]?=some (.cells (pkC p a) 32 (0,0))
theorem BxS.made(w:World)(p:Pk)(a:Ad):BxS w p a (w.alloc (.cells (pkC p a) 32)):=⟨qybm _,heap_alloc_new _ _⟩
theorem BxS.call{w W W':World}{p:Pk}{a:Ad}(h:BxS w p a W)(hb:Below W.heap.size W W'):BxS w p a W':=⟨qxh2 h.low hb,(hb.block _ (lt_of_block h.box)).trans h.box⟩
theorem BxS.draw{w W:World}{p:Pk}{a:Ad}(h:BxS w p a W):BxS w p a W.drew:=⟨h.low.drew,h.box⟩
theorem BxS.cell{w W:World}{p:Pk}{a:Ad}(h:BxS w p a W)(j:Nat):W.cell? ⟨w.heap.size,j,none⟩=(pkC p a)[j]? := cell_of_row _ _ j _ _ _ h.box
section
variable{P:Program}
theorem qesj(w:World)(A:Addr)(ty:TypeId)(cs:Array Value)(d:TypeDesc)(hc:∀(j:Nat) (v:Value),cs[j]?=some v->w.cell? (A.add j)=some v)
 (hu:P.underlying ty=some d) (hd:(match d with|.struct _|.array _ _=>true|_=>false)=true) (hi:(P.info? ty).map (·.size)=some cs.size) :
 (loadVar ty A).run P w=.ok (.agg cs) w:=by
 have hl:(loadCells A cs.toList.length).run P w=.ok cs.toList.toArray w:=
  run_loadCells_list (P:=P) w A cs.toList (fun j v hv=>hc j v (by simpa using hv))
 cases hq:P.info? ty with
 |none=>simp[hq] at hi
 |some i=>
  have hs:i.size=cs.size:=by simpa [hq] using hi
  have hagg:(isAgg ty).run P w=.ok true w:=by unfold isAgg;rw[Sem.run_bind,run_underlying hu w];cases d<;>simp_all
  simp only[Array.length_toList,Array.toArray_toList] at hl;simp[loadVar,Sem.run_bind,hagg,sizeOf,typeInfo,hq,hs,hl]
variable{ops:Array Oper}{rest:List Oper}{o:Oper}{a:Act}{w:World}{Q:Exit->Act->World->Prop}
theorem qcje{K:Act->World->Prop}(ty:TypeId)(x:Operand)(ho:o.op=.load ty x)(A:Addr)(hx:a.eval x=.pointer (some A))(cs:Array Value)(d:TypeDesc)(hc:∀(j:Nat) (v:Value),cs[j]?=some v->w.cell? (A.add j)=some v)
 (hu:P.underlying ty=some d) (hd:(match d with|.struct _|.array _ _=>true|_=>false)=true) (hi:(P.info? ty).map (·.size)=some cs.size)
 (h:K (a.put o.dst (.agg cs)) w):o.wp P a w K Q:=by
 unfold Oper.wp execOp;simp only[ho,hx,Instr.loadAt,Instr.sureAddr,Sem.run_bind,Sem.run_pure,Result.andThen_ok,qesj w A ty cs d hc hu hd hi];exact h
theorem ql0m(hw:Region.wanted o (yielded ops a.tmps)=true)(ty:TypeId)(x:Operand)(ho:o.op=.load ty x)(A:Addr)(hx:a.eval x=.pointer (some A))(cs:Array Value)(d:TypeDesc)(hc:∀(j:Nat) (v:Value),cs[j]?=some v->w.cell? (A.add j)=some v)
 (hu:P.underlying ty=some d) (hd:(match d with|.struct _|.array _ _=>true|_=>false)=true) (hi:(P.info? ty).map (·.size)=some cs.size)
 (h:wpList P ops Q rest (a.put o.dst (.agg cs)) w):wpList P ops Q (o::rest) a w:=by
 unfold wpList;rw[if_pos hw];exact .inl (qcje ty x ho A hx cs d hc hu hd hi h)
end
end Go.Proofs.YtombgnfedafkjaaGreatDoor
namespace Go.Proofs.YtombgnfedafkjaaGreatDoor
open Lib(hid)
theorem qx3n:qyib 4 [192,0]=({Pk.zero with kind:=12},2,0):=by decide+kernel
theorem qu4s{v:Int}{p:Pk}(h:q8s2 v p=0):(rawM v p).length<=268435460:=by
 obtain⟨_,_,_,h4⟩:=q31v h;have h5:sz (q9sw v p).length<=4:=by
  unfold sz
  repeat' split
  all_goals omega
 rw[qbl2];unfold rawH;rw[List.length_cons,q8sw];omega
def nmP:Pk:={Pk.zero with kind:=3,qos:=1,id:=10,topic:=[97,47,98],payload:=[104,105]}
def nmA:List UInt8:=[50,9,0,3,97,47,98,0,10,104,105]
theorem qixx:qk4b 4 nmP=(nmA,0):=by decide+kernel
theorem qkac:qk4b 5 {Pk.zero with kind:=14}=([224,0],0):=by decide+kernel
theorem qeny:qk4b 5 {Pk.zero with kind:=6,id:=3}=([98,2,0,3],0):=by decide+kernel
theorem qllg:qk4b 3 {Pk.zero with kind:=12}=([],2):=by decide+kernel
theorem q7i1:qk4b 4 {Pk.zero with kind:=15}=([],8):=by decide+kernel
theorem q1d9:qk4b 4 Pk.zero=([],8):=by decide+kernel
theorem qfpi:qyib 4 [50,9,0,3,97,47,98,0,10,104]=(Pk.zero,0,3):=by decide+kernel
theorem q6rh:qyib 4 [50,3,0,5,97]=(Pk.zero,0,5):=by decide+kernel
theorem qwle:qyib 4 [64,1,0]=(Pk.zero,0,5):=by decide+kernel
theorem qsrf:allM 4 15 ([192,0]++nmA++[208])=([{Pk.zero with kind:=12},nmP],13,0):=by decide+kernel
theorem q6ut:allM 4 5 [192,0,193,0]=([{Pk.zero with kind:=12}],2,7):=by decide+kernel
def necA(p:Pk):Nat:=if p.props≠[] then 2 else if p.code≠0 then 1 else 0
theorem qxhf(p:Pk):necA p=0\/necA p=1\/necA p=2:=by
 unfold necA;by_cases h:p.props=[]
 ·by_cases h1:p.code=0<;>simp[h,h1]
 ·simp[h]
def qolc(kind:Int)(s:Cs):(Nat×List Pr×Nat)×Cs:=
 if s.r=[] then((0,[],0),s)
 else if (s.num 1).2.r=[] then(((s.num 1).1,[],1),(s.num 1).2)
 else(((s.num 1).1,(qflw kind (s.num 1).2.r).1,2),((s.num 1).2.take (qflw kind (s.num 1).2.r).2.1).2.fail (qflw kind (s.num 1).2.r).2.2)
def midB(v kind:Int)(s:Cs):(Nat×List Pr×Nat)×Cs:=if v=5/\s.e=0 then qolc kind s else((0,[],0),s)
def pkB(kind:Int)(i c:Nat)(l:List Pr):Pk:={Pk.zero with kind:=kind,id:=(i:Nat),code:=(c:Nat),props:=l}
def qts0(v kind:Int)(s:Cs):Pk×Cs:=
 let i:=s.num 2
 let t:=midB v kind i.2
 let p:=pkB kind i.1 t.1.1 t.1.2.1
 (p,if t.2.r≠[]\/necA p<t.1.2.2 then t.2.fail 5 else t.2)
theorem Cs.num_one{b:UInt8}{t:List UInt8}:(Cs.mk (b::t) 0).num 1=(b.toNat,⟨t,0⟩):=by
 have h:=Cs.num_app (k:=b.toNat) (c:=1) (t:=t) (by have:=b.toNat_lt;omega);have e:be b.toNat 1=[b]:=by simp[be]
 rw[e] at h;exact h
theorem q1h8{kind:Int}{t:List UInt8}:((Cs.mk t 0).take (qflw kind t).2.1).2.fail (qflw kind t).2.2=⟨t.drop (qflw kind t).2.1,(qflw kind t).2.2⟩:=by
 have hle:(qflw kind t).2.1<=t.length:=by
  by_cases hF:(qflw kind t).2.2=0
  ·obtain⟨L,k,F,hq⟩:∃L k F,qflw kind t=(L,k,F):=⟨_,_,_,rfl⟩
   rw[hq] at hF ⊢;have hF:F=0:=hF;subst hF;exact(qugf hq).2.1
  ·rw[qjfk hF];exact Nat.zero_le _
 have h:¬t.length<(qflw kind t).2.1:=by omega
 simp[Cs.take,Cs.fail,h]
theorem qhjx(x:Cs)(f:Nat):(qveh x f).e=if x.e≠0 then x.e else if x.r≠[] then 5 else f:=by
 unfold qveh Cs.fail;by_cases he:x.e=0
 ·by_cases hr:x.r=[]
  ·simp[he,hr]
  ·simp[he,hr]
 ·simp[he]
def endB(p:Pk)(t:(Nat×List Pr×Nat)×Cs):Cs:=if t.2.r≠[]\/necA p<t.1.2.2 then t.2.fail 5 else t.2
theorem qiq9(y:Cs)(p:Pk)(f:Nat):(if y.e≠0 then y.e else if y.r≠[] then 5 else f)=if (endB p ((0,[],0),y)).e≠0 then(endB p ((0,[],0),y)).e else f:=by unfold endB Cs.fail;by_cases he:y.e=0<;>by_cases hr:y.r=[]<;>simp[he,hr]
theorem qn1g(v kind:Int)(y:Cs):(midB v kind y).1.1=(y.rest v kind).1.1/\(midB v kind y).1.2.1=(y.rest v kind).1.2/\
 ∀i f,(if (y.rest v kind).2.e≠0 then(y.rest v kind).2.e else if (y.rest v kind).2.r≠[] then 5 else f)=
  if (endB (pkB kind i (midB v kind y).1.1 (midB v kind y).1.2.1) (midB v kind y)).e≠0 then(endB (pkB kind i (midB v kind y).1.1 (midB v kind y).1.2.1) (midB v kind y)).e else f:=by
 obtain⟨r,e⟩:=y;unfold midB Cs.rest;by_cases h5:v=5
 ·subst h5;by_cases he:e=0
  ·subst he;rw[if_pos ⟨rfl,rfl⟩];cases r with
   |nil=>rw[if_pos (.inr (.inr rfl))];exact⟨rfl,rfl,fun i f=>qiq9 _ _ _⟩
   |cons b t=>
    rw[if_neg (by simp)];unfold qolc;rw[if_neg (show ¬(Cs.mk (b::t) 0).r=[] by simp)];simp only[Cs.num_one];cases t with
    |nil=>
     rw[if_pos rfl,if_pos rfl];refine⟨rfl,rfl,fun i f=>?_⟩;unfold endB necA pkB qzno Cs.fail;by_cases hz:b.toNat=0
     ·simp[hz]
     ·simp[hz]
    |cons c t=>
     rw[if_neg (by simp),if_neg (by simp),q1h8];obtain⟨L,k,F,hq⟩:∃L k F,qflw kind (c::t)=(L,k,F):=⟨_,_,_,rfl⟩
     have hp:(Cs.mk (c::t) 0).props 5 kind=(L,⟨(c::t).drop k,F⟩):=by simp[Cs.props,hq]
     rw[hp,hq];refine⟨rfl,rfl,fun i f=>?_⟩;by_cases hF:F=0
     ·subst hF;by_cases hd:(c::t).drop k=[]
      ·have hbk:=qugf hq;have htk:(q5aq kind L).1=c::t:=by have h3:=hbk.2.2;rw[List.take_of_length_le (List.drop_eq_nil_iff.1 hd)] at h3;exact h3
       have hb:UInt8.ofNat ((b.toNat:Nat):Int).toNat=b:=by simp
       simp only[hd];unfold endB necA pkB qzno Cs.fail;by_cases hL:L=[]
       ·subst hL;by_cases hz:b.toNat=0
        ·simp[hz]
        ·simp[hz]
       ·have hs:(if (5:Int)=5/\(((b.toNat:Nat):Int)≠0\/L≠[]) then UInt8.ofNat ((b.toNat:Nat):Int).toNat::(if L≠[] then(q5aq kind L).1 else []) else [])=b::c::t:=by rw[if_pos ⟨rfl,.inr hL⟩,if_pos hL,hb,htk]
        rw[hs];simp[hL]
      ·unfold endB Cs.fail;simp[hd]
     ·unfold endB Cs.fail;simp[hF]
  ·rw[if_neg (fun h=>he h.2),if_pos (.inr (.inl he))];exact⟨rfl,rfl,fun i f=>qiq9 _ _ _⟩
 ·rw[if_neg (fun h=>h5 h.1),if_pos (.inl h5)];exact⟨rfl,rfl,fun i f=>qiq9 _ _ _⟩
theorem qye3(v kind:Int)(s:Cs):(qts0 v kind s).1=(qngm v kind s).1:=by obtain⟨h1,h2,_⟩:=qn1g v kind (s.num 2).2;show pkB kind (s.num 2).1 (midB v kind (s.num 2).2).1.1 (midB v kind (s.num 2).2).1.2.1=pkB kind (s.num 2).1 ((s.num 2).2.rest v kind).1.1 ((s.num 2).2.rest v kind).1.2;rw[h1,h2]
theorem q2qi(v kind:Int)(s:Cs)(f:Nat):(qveh (qngm v kind s).2 f).e=if (qts0 v kind s).2.e≠0 then(qts0 v kind s).2.e else f:=by rw[qhjx];exact(qn1g v kind (s.num 2).2).2.2 (s.num 2).1 f
theorem q96o(v kind:Int)(l:List UInt8):q9uf v kind l=if (versC v&&qvya kind)=false then(Pk.zero,2) else
 let x:=qts0 v kind ⟨l,0⟩
 let e:=if x.2.e=0 then qryp v x.1 else x.2.e
 if e≠0 then(Pk.zero,e) else(x.1,0):=by
 unfold q9uf;split
 ·rfl
 ·simp only[q2qi,qye3];by_cases h:(qts0 v kind ⟨l,0⟩).2.e=0<;>simp[h]
end Go.Proofs.YtombgnfedafkjaaGreatDoor
namespace Go.Proofs.YtombgnfedafkjaaGreatDoor
open Lib(hid)
open Go.RowKit
theorem qp2i{v kind:Int}{l:List Pr}(h:rightC v kind l=0):(tailC v kind l).length<=300000000:=by
 unfold tailC;unfold rightC at h;split
 ·rename_i h5;rw[if_pos h5] at h;obtain⟨_,_,_,h4⟩:=qpfx h;unfold q5aq;rw[if_neg (by simpa using h),List.length_append,q8sw]
  have:=qnl4 (q636 l).length h4
  omega
 ·exact Nat.zero_le _
end Go.Proofs.YtombgnfedafkjaaGreatDoor
namespace Go.Proofs.YtombgnfedafkjaaGreatDoor
open Lib(hid)
theorem qxi6{v:Int}{p:Pk}(h:q1ra v p=0):rawK v p=q4py p.code p.props p.kind/\(rawK v p=[]↔p.code=0/\p.props=[]):=by
 obtain⟨hv,hk,h15,hu,hm,hr⟩:=qi0l h;unfold rawK;cases hp:q6gd v p.kind with
 |true=>
  have hc:p.code=0:=by rw[hu,usedK,hp];rfl
  have hl:p.props=[]:=by rw[hu,usedK,hp];rfl
  rw[if_pos rfl,hc,hl];refine⟨?_,by simp⟩;unfold q4py;split
  ·rfl
  ·simp[qzno]
 |false=>
  have h5:=qm9l hk hv h15 hp;obtain⟨c0,c1⟩:=qaiv (hm hp);have hvp:qpyu p.kind p.props=0:=by rw[rightC,if_pos h5] at hr;exact hr
  rw[if_neg (by decide)];refine⟨rfl,?_⟩;unfold q4py;rw[if_neg (by
   rintro(h|h|h)
   ·omega
   ·omega
   ·exact h hvp)]
  unfold qzno;by_cases hc:p.code=0<;>by_cases hl:p.props=[]<;>simp[hc,hl]
def pkT(kind:Int)(c:Nat)(l:List Pr):Pk:=pkB kind 0 c l
def qyjk(v k:Int):Bool×Nat:=if (versC v&&q5t0 k)=false then(false,2) else if k=15/\v=4 then(false,8) else(!q6gd v k,0)
def q6u6(kind:Int)(l:List UInt8):(Nat×List Pr)×Nat:=
 match l with
 |[]=>((0,[]),0)
 |b::t=>if t=[] then((b.toNat,[]),0) else((b.toNat,(qflw kind t).1),(qflw kind t).2.2)
def endK(kind:Int)(l:List UInt8):Nat:=
 if (q6u6 kind l).2≠0 then(q6u6 kind l).2 else if (q4py (q6u6 kind l).1.1 (q6u6 kind l).1.2 kind).length<l.length then 5 else 0
theorem qe40(k c:Int)(l:List Pr)(h0:¬(c=0/\l=[])):qzno 5 k c l=UInt8.ofNat c.toNat::(if l≠[] then(q5aq k l).1 else []):=by
 unfold qzno;refine if_pos ⟨rfl,?_⟩;by_cases h:c=0
 ·exact .inr fun e=>h0 ⟨h,e⟩
 ·exact .inl h
theorem qsg6(kind:Int)(l:List UInt8):(q6u6 kind l).1=((Cs.mk l 0).rest 5 kind).1/\
 ∀f,(qveh ((Cs.mk l 0).rest 5 kind).2 f).e=if endK kind l≠0 then endK kind l else f:=by
 unfold endK;cases l with
 |nil=>refine⟨rfl,fun f=>?_⟩;rw[qhjx];simp[Cs.rest,q6u6]
 |cons b t=>
  have hb0:=b.toNat_lt;have hb:UInt8.ofNat ((b.toNat:Nat):Int).toNat=b:=by simp
  have hr:(Cs.mk (b::t) 0).rest 5 kind=((b.toNat,(if t=[] then([],Cs.mk t 0) else(Cs.mk t 0).props 5 kind).1),if (if t=[] then([],Cs.mk t 0) else(Cs.mk t 0).props 5 kind).2.e=0/\(if t=[] then([],Cs.mk t 0) else(Cs.mk t 0).props 5 kind).2.r=[]/\qzno 5 kind b.toNat (if t=[] then([],Cs.mk t 0) else(Cs.mk t 0).props 5 kind).1≠b::t then(if t=[] then([],Cs.mk t 0) else(Cs.mk t 0).props 5 kind).2.fail 5 else(if t=[] then([],Cs.mk t 0) else(Cs.mk t 0).props 5 kind).2):=by unfold Cs.rest;rw[if_neg (by simp)];simp only[Cs.num_one]
  rw[hr];unfold q6u6;by_cases ht:t=[]
  ·subst ht;simp only[if_true];refine⟨trivial,fun f=>?_⟩;rw[qhjx];have e:q4py (b.toNat:Nat) [] kind=qzno 5 kind (b.toNat:Nat) []:=by
    unfold q4py;rw[if_neg (by
     rintro(h|h|h)
     ·omega
     ·omega
     ·exact h rfl)]
   rw[e];by_cases hz:b.toNat=0
   ·simp[qzno,hz,Cs.fail]
   ·simp[qzno,hz]
  ·simp only[if_neg ht];obtain⟨L,k,F,hq⟩:∃L k F,qflw kind t=(L,k,F):=⟨_,_,_,rfl⟩
   have hp:(Cs.mk t 0).props 5 kind=(L,⟨t.drop k,F⟩):=by simp[Cs.props,hq]
   rw[hp,hq];refine⟨rfl,fun f=>?_⟩;rw[qhjx];by_cases hF:F=0
   ·subst hF;obtain⟨hv,hk,hbk⟩:=qugf hq;have e:q4py (b.toNat:Nat) L kind=qzno 5 kind (b.toNat:Nat) L:=by
     unfold q4py;rw[if_neg (by
      rintro(h|h|h)
      ·omega
      ·omega
      ·exact h hv)]
    simp only[e];have hn:t.length≠0:=fun e=>ht (List.length_eq_zero_iff.1 e);by_cases hL:L=[]
    ·subst hL;have hsl:(qzno 5 kind ((b.toNat:Nat):Int) []).length<t.length+1:=by unfold qzno;split<;>simp<;>omega
     have hne:qzno 5 kind ((b.toNat:Nat):Int) []≠b::t:=fun e=>by rw[e] at hsl;simp at hsl
     by_cases hd:t.drop k=[]
     ·simp[hd,hne,hsl,Cs.fail]
     ·simp[hd,hsl]
    ·have hs:qzno 5 kind ((b.toNat:Nat):Int) L=b::t.take k:=by rw[qe40 _ _ _ (fun h=>hL h.2),if_pos hL,hb,hbk]
     rw[hs];by_cases hd:t.drop k=[]
     ·have htk:t.take k=t:=List.take_of_length_le (List.drop_eq_nil_iff.1 hd);simp[hd,htk]
     ·have hlt:k<t.length:=by
       rcases Nat.lt_or_ge k t.length with h|h
       ·exact h
       ·exact absurd (List.drop_eq_nil_iff.2 h) hd
      have hm:min k t.length<t.length:=by omega
      simp[hd,hm]
   ·simp[hF]
theorem q0pt(v kind:Int)(l:List UInt8)(hp:q6gd v kind=false)(h5:v=5):(q9kh v kind ⟨l,0⟩).1=pkT kind (q6u6 kind l).1.1 (q6u6 kind l).1.2:=by
 subst h5;unfold q9kh;rw[hp,if_neg (by decide),(qsg6 kind l).1]
 rfl
theorem q54j(v kind:Int)(l:List UInt8):qf4x v kind l=
 if (qyjk v kind).2≠0 then(Pk.zero,(qyjk v kind).2)
 else if (qyjk v kind).1=false/\l≠[] then(Pk.zero,5)
 else
  let x:=pkT kind (q6u6 kind l).1.1 (q6u6 kind l).1.2
  let e:=if endK kind l≠0 then endK kind l else q1ra v x
  if e≠0 then(Pk.zero,e) else(x,0):=by
 unfold qf4x qyjk;by_cases h1:(versC v&&q5t0 kind)=false
 ·rw[if_pos h1,if_pos h1];rfl
 rw[if_neg h1,if_neg h1];by_cases h2:kind=15/\v=4
 ·rw[if_pos h2,if_pos h2];rfl
 rw[if_neg h2,if_neg h2];simp only[ne_eq,not_true_eq_false,if_false];rw[Bool.not_eq_false,Bool.and_eq_true] at h1;simp only[versC,q5t0,Bool.or_eq_true,Bool.and_eq_true,beq_iff_eq,decide_eq_true_eq] at h1;cases hp:q6gd v kind with
 |false=>
  have h5:=qm9l h1.2 h1.1 h2 hp;have e:=qsg6 kind l;have e2:(q9kh v kind ⟨l,0⟩).2=((Cs.mk l 0).rest 5 kind).2:=by unfold q9kh;rw[hp,if_neg (by decide),h5]
  rw[q0pt v kind l hp h5,e2];simp only[e.2];simp
 |true=>
  have e1:q9kh v kind ⟨l,0⟩=({Pk.zero with kind:=kind},⟨l,0⟩):=by unfold q9kh;rw[hp,if_pos rfl]
  rw[e1];simp only[qhjx];cases l with
  |nil=>
   have:pkT kind (q6u6 kind []).1.1 (q6u6 kind []).1.2={Pk.zero with kind:=kind}:=rfl
   have e0:endK kind []=0:=by
    have:=(qsg6 kind []).2 0
    rw[qhjx] at this;by_cases h:endK kind []=0
    ·exact h
    ·rw[if_pos h] at this;simp[Cs.rest] at this;exact this
   simp[this,e0]
  |cons b t=>simp
end Go.Proofs.YtombgnfedafkjaaGreatDoor
namespace Go.Proofs.YtombgnfedafkjaaGreatDoor
open Lib(hid)
open Go.Maps (Keyed)
open Go.RowKit
def hasK:List (Int×Value)->Int->Bool
 |[],_=>false
 |p::l,i=>if i=p.1 then true else hasK l i
def qwau(P:Program)(k:TypeId)(w:World)(b:Nat)(z:Value)(l:List (Int×Value)):Prop:=
 ∃D:DataW Value,w.ownsMap P k qaha b l.length D/\(∀i,D.atKey (.int .i64 i) (.held z)=.held (q1n3 z l i))/\∀i,Maps.has D (.int .i64 i)=hasK l i
section
variable{P:Program}{k e t:TypeId}{w w':World}{b:Nat}{z:Value}{l:List (Int×Value)}
theorem qwau.of_block(h:qwau P k w b z l)(hb:w'.heap[b]?=w.heap[b]?):qwau P k w' b z l:=by obtain⟨D,⟨es,c,h1,h2⟩,h3⟩:=h;exact⟨D,⟨es,c,hb.trans h1,h2⟩,h3⟩
theorem qwau.made(w:World)(P:Program)(k:TypeId)(z:Value):qwau P k (w.alloc (.map #[] 0)) w.heap.size z []:=
 ⟨_,World.ownsMap_made _ _ _ _,fun _=>rfl,fun _=>rfl⟩
theorem qwau.look(h:qwau P k w b z l)(hk:P.underlying k=some (.int .i64))(ht:P.underlying t=some (.map k e))(hz:(zeroValue e).run P w=.ok z w){i:Int}(hi:(Lit.int .i64 i).wf=true) :
 (Instr.lookup t (.map (some b)) (.int .i64 i) true).run P w=.ok (.tuple #[q1n3 z l i,.bool (hasK l i)]) w:=by
 obtain⟨D,h1,h2,h3⟩:=h;obtain⟨v,ps,hrun,hv⟩:=h1.look_ok (Maps.int_keyed hk) ht hz (show qaha z=some (.held z,[]) from rfl) (Maps.keyOf_int_mk hk hi);rw[h2] at hv
 have:v=q1n3 z l i:=by unfold qaha at hv;simp only[Option.some.injEq,Prod.mk.injEq,DataW.held.injEq] at hv;exact hv.1
 rw[hrun,this,h3]
theorem qwau.put(h:qwau P k w b z l)(hk:P.underlying k=some (.int .i64))(ht:P.underlying t=some (.map k e))(hn:l.length<maxLen){i:Int}(hi:(Lit.int .i64 i).wf=true)(v:Value) :
 ∃w',(Instr.mapUpdate t (.map (some b)) (.int .i64 i) v).run P w=.ok () w'/\qwau P k w' b z ((i,v)::l)/\w.grownBy w' (some b):=by
 obtain⟨D,h1,h2,h4⟩:=h;have hD:Maps.IsMap D:=by obtain⟨es,c,_,_,_,e⟩:=h1;exact⟨_,e⟩
 obtain⟨w',r1,r2,r3⟩:=h1.update (Maps.int_keyed hk) ht hn (Maps.keyOf_int_mk hk hi) (show qaha v=some (.held v,[]) from rfl);refine⟨w',r1,⟨_,r2,fun j=>?_,fun j=>?_⟩,r3⟩
 ·show _=DataW.held (if j=i then v else q1n3 z l j);by_cases e:j=i
  ·subst e;rw[if_pos rfl,Maps.atKey_put_same hD (show WideAt.IsKeyLit (.int .i64 j) from trivial)]
  ·rw[if_neg e,Maps.atKey_put_other (fun x=>e (by cases x;rfl)),h2]
 ·show _=if j=i then true else hasK l j;by_cases e:j=i
  ·subst e;rw[if_pos rfl,Maps.has_put_same hD (show WideAt.IsKeyLit (.int .i64 j) from trivial)]
  ·rw[if_neg e,Maps.has_put_other (fun x=>e (by cases x;rfl)),h4]
def qpdk(P:Program)(k:TypeId)(w0 w:World)(b:Nat)(z:Value)(l:List (Int×Value)):Prop:=qwau P k w b z l/\Below w0.heap.size w0 w/\w0.heap.size<=b
theorem q6d2{ops:Array Oper}{rest:List Oper}{o:Oper}{a:Act}{Q:Exit->Act->World->Prop}{w0:World}
 (hg:o.guard=none) (m x v:Operand) (t:TypeId) (hop:o.op=Op.insert t m x v) (k e:TypeId) (hk:P.underlying k=some (.int .i64)) (ht:P.underlying t=some (.map k e))
 (b:Nat) (z:Value) (l:List (Int×Value)) (hm:a.eval m=.map (some b)) (h:qpdk P k w0 w b z l) (hn:l.length<maxLen) (i:Int) (val:Value) (hx:a.eval x=.int .i64 i) (hv:a.eval v=val) (hi:(Lit.int .i64 i).wf=true)
 (hK:∀w',qpdk P k w0 w' b z ((i,val)::l)->wpList P ops Q rest (a.put o.dst undef) w') :
 wpList P ops Q (o::rest) a w:=by
 refine wpList_plain hg fun K' hK'=>?_;obtain⟨h1,h2,h3⟩:=h;obtain⟨w',hrun,r1,r2⟩:=h1.put hk ht hn hi val;unfold Oper.wp;simp[execOp,hop,hm,hx,hv,hrun,Result.andThen];exact hK' _ _ (hK w' ⟨r1,h2.grown r2 h2.size (fun j hj=>by cases hj;exact h3),h3⟩)
end
end Go.Proofs.YtombgnfedafkjaaGreatDoor
namespace Go.Proofs.YtombgnfedafkjaaGreatDoor
open Lib(hid)
open Go.RowKit
theorem qgtk(A B:Option Addr)(na nb c d:Nat)(l m:List Pr)(w:World)(hA:PL w A l)(hB:PL w B m)(hla:l.length=na)(hlb:m.length=nb)(hN:na<=70000)(hM:nb<=70000) :
 Calls Tryz.prog 29 #[.slice A na c,.slice B nb d] w fun e w'=>e=.returned (.bool (decide (l=m)))/\∃k,w'=w.drewN k:=by
 by_cases hn:na=nb
 ·subst hn;obtain⟨D,hD⟩:∃D,decide (l=m)=D:=⟨_,rfl⟩
  rw[hD];have HD:=hid hD;have HA:=hid hA;have HB:=hid hB;have HLA:=hid hla;have HLB:=hid hlb;have q0:(na:Int)<=70000:=by omega
  clear hA hB hla hlb hN hM hD;go_in;go_wp2_with fail
  go_loopg [5] na (fun gk i wr=>∃k x:Nat,k<=na/\gk=na-k/\i=.int .i64 (k:Int)/\wr=w.drewN x/\∀j p q,j<k->l[j]?=some p->m[j]?=some q->p=q)
  case atStart=>exact⟨0,0,Nat.zero_le _,rfl,rfl,rfl,fun j p q h=>by omega⟩
  case round=>
   obtain⟨k,x,hk,rfl,rfl,rfl,hS⟩:=hrel;have HS:=hid hS;by_cases hlt:k<na
   ·have hkl:k<l.length:=by rw[HLA.out];exact hlt
    have hkm:k<m.length:=by rw[HLB.out];exact hlt
    obtain⟨p,hp⟩:∃p,l[k]?=some p:=⟨_,List.getElem?_eq_getElem hkl⟩
    obtain⟨q,hq⟩:∃q,m[k]?=some q:=⟨_,List.getElem?_eq_getElem hkm⟩
    obtain⟨ga,ia,rfl,_,a0,a1,a2,a3⟩:=HA.out.at hp;obtain⟨gb,ib,rfl,_,b0,b1,b2,b3⟩:=HB.out.at hq;have HP:=hid hp;have HQ:=hid hq;have HL:=hid hlt;have g1:(k:Int)<(na:Int):=by omega
    have hno:p≠q->D=false:=fun h=>by rw[<-HD.out];exact decide_eq_false fun e=>h (by subst e;exact Option.some.inj (HP.out.symm.trans HQ.out))
    have HNO:=hid hno;clear hS hkl hkm hp hq hlt hk hno;rcases qzlf p q with h|h|⟨h1,h2⟩|⟨h1,h2,h3⟩|⟨h1,h2,h3,h4⟩
    ·subst h;generalize p.id=x0 at a0 b0;generalize ((p.n:Nat):Int)=x1 at a1 b1;generalize bs p.text=x2 at a2 b2;generalize bs p.value=x3 at a3 b3;go_wp2_with fail;go_quiet (fail);go_wp2_with fail
     go_roundg (na-(k+1))
     case measure=>have:=HL.out;omega
     case rel=>
      refine⟨k+1,_,by have:=HL.out;omega,rfl,by go_num,rfl,fun j u v hj hu hv=>?_⟩;by_cases hjk:j=k
      ·subst hjk;exact Option.some.inj ((hu.symm.trans HP.out).trans (HQ.out.symm.trans hv))
      ·exact HS.out j u v (by omega) hu hv
    ·have hD:=HNO.out (fun e=>by rw[e] at h;simp at h);subst hD;generalize p.id=x0 at *;generalize ((p.n:Nat):Int)=x1 at *;generalize bs p.text=x2 at *;generalize bs p.value=x3 at *;generalize q.id=y0 at *;generalize ((q.n:Nat):Int)=y1 at *;generalize bs q.text=y2 at *;generalize bs q.value=y3 at *;go_wp2_with fail;go_quiet (fail);go_wp2;go_ret;exact⟨rfl,_,qgiq _ _ _⟩
    ·have hD:=HNO.out (fun e=>by rw[e] at h2;simp at h2);subst hD;rw[h1] at a0;clear h1;generalize p.id=x0 at *;generalize ((p.n:Nat):Int)=x1 at *;generalize bs p.text=x2 at *;generalize bs p.value=x3 at *;generalize q.id=y0 at *;generalize ((q.n:Nat):Int)=y1 at *;generalize bs q.text=y2 at *;generalize bs q.value=y3 at *;go_wp2_with fail;go_quiet (fail);go_wp2;go_ret;exact⟨rfl,_,qgiq _ _ _⟩
    ·have hD:=HNO.out (fun e=>by rw[e] at h3;simp at h3);subst hD;rw[h1] at a0;rw[h2] at a1;clear h1 h2;generalize p.id=x0 at *;generalize ((p.n:Nat):Int)=x1 at *;generalize bs p.text=x2 at *;generalize bs p.value=x3 at *;generalize q.id=y0 at *;generalize ((q.n:Nat):Int)=y1 at *;generalize bs q.text=y2 at *;generalize bs q.value=y3 at *;go_wp2_with fail;go_quiet (fail);go_wp2;go_ret;exact⟨rfl,_,qgiq _ _ _⟩
    ·have hD:=HNO.out (fun e=>by rw[e] at h4;simp at h4);subst hD;rw[h1] at a0;rw[h2] at a1;rw[h3] at a2;clear h1 h2 h3;generalize p.id=x0 at *;generalize ((p.n:Nat):Int)=x1 at *;generalize bs p.text=x2 at *;generalize bs p.value=x3 at *;generalize q.id=y0 at *;generalize ((q.n:Nat):Int)=y1 at *;generalize bs q.text=y2 at *;generalize bs q.value=y3 at *;go_wp2_with fail;go_quiet (fail);go_wp2;go_ret;exact⟨rfl,_,qgiq _ _ _⟩
   ·obtain rfl:k=na:=by omega
    have hD:D=true:=by rw[<-HD.out];exact decide_eq_true (qs8g HLA.out HLB.out hS)
    subst hD;clear hS hlt hk;go_wp2;go_ret;exact⟨rfl,_,rfl⟩
 ·have hD:decide (l=m)=false:=decide_eq_false fun e=>hn (by rw[<-hla,<-hlb,e]);have q0:((na:Int) != (nb:Int))=true:=by rw[bne_iff_ne];omega
  rw[hD];clear hA hB hla hlb hN hM hD hn;go_in;go_wp2;go_ret;exact⟨rfl,0,rfl⟩
end Go.Proofs.YtombgnfedafkjaaGreatDoor
