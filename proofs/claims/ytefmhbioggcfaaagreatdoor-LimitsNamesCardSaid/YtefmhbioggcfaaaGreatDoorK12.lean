/- Plain facts: what PINGREQ, PINGRESP, DISCONNECT and AUTH may hold, their bodies, what is read of them. No condition. -/
import Derived.Test.YtefmhbioggcfaaaGreatDoorK10
namespace Go.Proofs.YtefmhbioggcfaaaGreatDoor
def q5t0(k:Int):Bool:=decide (12<=k)&&decide (k<=15)
def q6gd(v k:Int):Bool:=k==12 || k==13 || (k==14&&v==4)
def usedK(v:Int)(p:Pk):Pk:={Pk.zero with kind:=p.kind,code:=if q6gd v p.kind then 0 else p.code,props:=if q6gd v p.kind then [] else p.props}
def q1ra(v:Int)(p:Pk):Nat:=
 if (versC v&&q5t0 p.kind)=false then 2 else if p.kind=15/\v=4 then 8 else if (decide (p=usedK v p)&&(q6gd v p.kind || mayR p.kind p.code))=false then 2 else rightC v p.kind p.props
def q4py(code:Int)(l:List Pr)(kind:Int):List UInt8:=if code<0\/255<code\/qpyu kind l≠0 then [] else qzno 5 kind code l
def rawK(v:Int)(p:Pk):List UInt8:=if q6gd v p.kind then [] else q4py p.code p.props p.kind
def q2jl(v:Int)(p:Pk):List UInt8×Nat:=if q1ra v p≠0 then([],q1ra v p) else(rawK v p,0)
def q9kh(v kind:Int)(s:Cs):Pk×Cs:=
 if q6gd v kind then({Pk.zero with kind:=kind},s)
 else({Pk.zero with kind:=kind,code:=((s.rest v kind).1.1:Nat),props:=(s.rest v kind).1.2},(s.rest v kind).2)
def qf4x(v kind:Int)(l:List UInt8):Pk×Nat:=
 if (versC v&&q5t0 kind)=false then(Pk.zero,2) else if kind=15/\v=4 then(Pk.zero,8)
 else
  let x:=q9kh v kind ⟨l,0⟩
  let s:=qveh x.2 (q1ra v x.1)
  if s.e≠0 then(Pk.zero,s.e) else(x.1,0)
theorem qi0l{v:Int}{p:Pk}(h:q1ra v p=0):(v=4\/v=5)/\(12<=p.kind/\p.kind<=15)/\¬(p.kind=15/\v=4)/\p=usedK v p/\(q6gd v p.kind=false->mayR p.kind p.code=true)/\rightC v p.kind p.props=0:=by
 unfold q1ra at h;split at h
 ·cases h
 split at h
 ·cases h
 split at h
 ·cases h
 rename_i h1 h2 h3;rw[Bool.not_eq_false,Bool.and_eq_true] at h1 h3;simp only[versC,q5t0,Bool.or_eq_true,Bool.and_eq_true,beq_iff_eq,decide_eq_true_eq] at h1 h3;exact⟨h1.1,h1.2,h2,h3.1,fun e=>by have:=h3.2;rw[e] at this;simpa using this,h⟩
theorem qm9l{v k:Int}(hk:12<=k/\k<=15)(hv:v=4\/v=5)(h15:¬(k=15/\v=4))(h:q6gd v k=false):v=5:=by simp only[q6gd,Bool.or_eq_false_iff,Bool.and_eq_false_iff,beq_eq_false_iff_ne] at h;omega
theorem qaiu{v k:Int}{s:Cs}(he:(s.rest v k).2.e=0)(hr:(s.rest v k).2.r=[]):s.e=0/\qzno v k ((s.rest v k).1.1:Nat) (s.rest v k).1.2=s.r:=by
 unfold Cs.rest at he hr ⊢;by_cases hc:v≠5\/s.e≠0\/s.r=[]
 ·rw[if_pos hc] at he hr ⊢;refine⟨he,?_⟩;have hr:s.r=[]:=hr;rw[hr];simp[qzno]
 ·rw[if_neg hc] at he hr ⊢;simp only at he hr ⊢;obtain⟨p,hp⟩:∃p,(if (s.num 1).2.r=[] then([],(s.num 1).2) else(s.num 1).2.props v k)=p:=⟨_,rfl⟩
  rw[hp] at he hr ⊢;by_cases hw:p.2.e=0/\p.2.r=[]/\qzno v k ((s.num 1).1:Nat) p.1≠s.r
  ·rw[if_pos hw] at he;exact absurd (qemw he).2 (by decide)
  ·rw[if_neg hw] at he hr;refine⟨?_,?_⟩
   ·by_cases e:s.e=0
    ·exact e
    ·exact absurd (.inr (.inl e)) hc
   ·by_cases e:qzno v k ((s.num 1).1:Nat) p.1=s.r
    ·exact e
    ·exact absurd ⟨he,hr,e⟩ hw
theorem qpsx{v k:Int}{l:List UInt8}(h:(qf4x v k l).2=0):q1ra v (qf4x v k l).1=0/\rawK v (qf4x v k l).1=l/\(qf4x v k l).1.kind=k:=by
 unfold qf4x at h ⊢;split at h
 ·cases h
 rename_i h1;rw[if_neg h1];split at h
 ·cases h
 rename_i h15;rw[if_neg h15];simp only at h ⊢;split at h
 ·rename_i h2;exact absurd h h2
 rename_i h2;rw[if_neg h2];have h2:(qveh (q9kh v k ⟨l,0⟩).2 (q1ra v (q9kh v k ⟨l,0⟩).1)).e=0:=by simpa using h2
 obtain⟨h3,h4,h5⟩:=q0lq h2;have hkk:(q9kh v k ⟨l,0⟩).1.kind=k:=by unfold q9kh;split<;>rfl
 refine⟨h5,?_,hkk⟩;unfold rawK;rw[hkk];have hvk:=qi0l h5;rw[hkk] at hvk;unfold q9kh at h3 h4 h5 hvk ⊢;cases hp:q6gd v k with
 |true=>rw[hp,if_pos rfl] at h4;rw[if_pos rfl];exact h4.symm
 |false=>rw[hp,if_neg (by decide)] at h3 h4 hvk;rw[if_neg (by decide),if_neg (by decide)];obtain⟨hv,hk,hn,_,hm,hr⟩:=hvk;have hv5:=qm9l hk hv hn hp;obtain⟨_,hs⟩:=qaiu h3 h4;subst hv5;have hvp:qpyu k ((Cs.mk l 0).rest 5 k).1.2=0:=hr;obtain⟨c0,c1⟩:=qaiv (hm rfl);have c0:(0:Int)<=(((Cs.mk l 0).rest 5 k).1.1:Nat):=c0;have c1:((((Cs.mk l 0).rest 5 k).1.1:Nat):Int)<163:=c1;show q4py (((Cs.mk l 0).rest 5 k).1.1:Nat) ((Cs.mk l 0).rest 5 k).1.2 k=l;rw[q4py,if_neg (by omega)];exact hs
theorem qxi6{v:Int}{p:Pk}(h:q1ra v p=0):rawK v p=q4py p.code p.props p.kind/\(rawK v p=[]↔p.code=0/\p.props=[]):=by
 obtain⟨hv,hk,h15,hu,hm,hr⟩:=qi0l h;unfold rawK;cases hp:q6gd v p.kind with
 |true=>
  have hc:p.code=0:=by rw[hu,usedK,hp];rfl
  have hl:p.props=[]:=by rw[hu,usedK,hp];rfl
  rw[if_pos rfl,hc,hl];refine⟨?_,by simp⟩;unfold q4py;split
  ·rfl
  ·simp[qzno]
 |false=>
  have h5:=qm9l hk hv h15 hp;obtain⟨c0,c1⟩:=qaiv (hm hp);have hvp:qpyu p.kind p.props=0:=by rw[rightC,if_pos h5] at hr;exact hr
  rw[if_neg (by decide)];refine⟨rfl,?_⟩;unfold q4py;rw[if_neg (by
   rintro(h|h|h)
   ·omega
   ·omega
   ·exact h hvp)]
  unfold qzno;by_cases hc:p.code=0<;>by_cases hl:p.props=[]<;>simp[hc,hl]
def pkT(kind:Int)(c:Nat)(l:List Pr):Pk:=pkB kind 0 c l
def qyjk(v k:Int):Bool×Nat:=if (versC v&&q5t0 k)=false then(false,2) else if k=15/\v=4 then(false,8) else(!q6gd v k,0)
def q6u6(kind:Int)(l:List UInt8):(Nat×List Pr)×Nat:=
 match l with
 |[]=>((0,[]),0)
 |b::t=>if t=[] then((b.toNat,[]),0) else((b.toNat,(qflw kind t).1),(qflw kind t).2.2)
def endK(kind:Int)(l:List UInt8):Nat:=
 if (q6u6 kind l).2≠0 then(q6u6 kind l).2 else if (q4py (q6u6 kind l).1.1 (q6u6 kind l).1.2 kind).length<l.length then 5 else 0
theorem qe40(k c:Int)(l:List Pr)(h0:¬(c=0/\l=[])):qzno 5 k c l=UInt8.ofNat c.toNat::(if l≠[] then(q5aq k l).1 else []):=by
 unfold qzno;refine if_pos ⟨rfl,?_⟩;by_cases h:c=0
 ·exact .inr fun e=>h0 ⟨h,e⟩
 ·exact .inl h
theorem qsg6(kind:Int)(l:List UInt8):(q6u6 kind l).1=((Cs.mk l 0).rest 5 kind).1/\
 ∀f,(qveh ((Cs.mk l 0).rest 5 kind).2 f).e=if endK kind l≠0 then endK kind l else f:=by
 unfold endK;cases l with
 |nil=>refine⟨rfl,fun f=>?_⟩;rw[qhjx];simp[Cs.rest,q6u6]
 |cons b t=>
  have hb0:=b.toNat_lt;have hb:UInt8.ofNat ((b.toNat:Nat):Int).toNat=b:=by simp
  have hr:(Cs.mk (b::t) 0).rest 5 kind=((b.toNat,(if t=[] then([],Cs.mk t 0) else(Cs.mk t 0).props 5 kind).1),if (if t=[] then([],Cs.mk t 0) else(Cs.mk t 0).props 5 kind).2.e=0/\(if t=[] then([],Cs.mk t 0) else(Cs.mk t 0).props 5 kind).2.r=[]/\qzno 5 kind b.toNat (if t=[] then([],Cs.mk t 0) else(Cs.mk t 0).props 5 kind).1≠b::t then(if t=[] then([],Cs.mk t 0) else(Cs.mk t 0).props 5 kind).2.fail 5 else(if t=[] then([],Cs.mk t 0) else(Cs.mk t 0).props 5 kind).2):=by unfold Cs.rest;rw[if_neg (by simp)];simp only[Cs.num_one]
  rw[hr];unfold q6u6;by_cases ht:t=[]
  ·subst ht;simp only[if_true];refine⟨trivial,fun f=>?_⟩;rw[qhjx];have e:q4py (b.toNat:Nat) [] kind=qzno 5 kind (b.toNat:Nat) []:=by
    unfold q4py;rw[if_neg (by
     rintro(h|h|h)
     ·omega
     ·omega
     ·exact h rfl)]
   rw[e];by_cases hz:b.toNat=0
   ·simp[qzno,hz,Cs.fail]
   ·simp[qzno,hz]
  ·simp only[if_neg ht];obtain⟨L,k,F,hq⟩:∃L k F,qflw kind t=(L,k,F):=⟨_,_,_,rfl⟩
   have hp:(Cs.mk t 0).props 5 kind=(L,⟨t.drop k,F⟩):=by simp[Cs.props,hq]
   rw[hp,hq];refine⟨rfl,fun f=>?_⟩;rw[qhjx];by_cases hF:F=0
   ·subst hF;obtain⟨hv,hk,hbk⟩:=qugf hq;have e:q4py (b.toNat:Nat) L kind=qzno 5 kind (b.toNat:Nat) L:=by
     unfold q4py;rw[if_neg (by
      rintro(h|h|h)
      ·omega
      ·omega
      ·exact h hv)]
    simp only[e];have hn:t.length≠0:=fun e=>ht (List.length_eq_zero_iff.1 e);by_cases hL:L=[]
    ·subst hL;have hsl:(qzno 5 kind ((b.toNat:Nat):Int) []).length<t.length+1:=by unfold qzno;split<;>simp<;>omega
     have hne:qzno 5 kind ((b.toNat:Nat):Int) []≠b::t:=fun e=>by rw[e] at hsl;simp at hsl
     by_cases hd:t.drop k=[]
     ·simp[hd,hne,hsl,Cs.fail]
     ·simp[hd,hsl]
    ·have hs:qzno 5 kind ((b.toNat:Nat):Int) L=b::t.take k:=by rw[qe40 _ _ _ (fun h=>hL h.2),if_pos hL,hb,hbk]
     rw[hs];by_cases hd:t.drop k=[]
     ·have htk:t.take k=t:=List.take_of_length_le (List.drop_eq_nil_iff.1 hd);simp[hd,htk]
     ·have hlt:k<t.length:=by
       rcases Nat.lt_or_ge k t.length with h|h
       ·exact h
       ·exact absurd (List.drop_eq_nil_iff.2 h) hd
      have hm:min k t.length<t.length:=by omega
      simp[hd,hm]
   ·simp[hF]
theorem q0pt(v kind:Int)(l:List UInt8)(hp:q6gd v kind=false)(h5:v=5):(q9kh v kind ⟨l,0⟩).1=pkT kind (q6u6 kind l).1.1 (q6u6 kind l).1.2:=by
 subst h5;unfold q9kh;rw[hp,if_neg (by decide),(qsg6 kind l).1]
 rfl
theorem q54j(v kind:Int)(l:List UInt8):qf4x v kind l=
 if (qyjk v kind).2≠0 then(Pk.zero,(qyjk v kind).2)
 else if (qyjk v kind).1=false/\l≠[] then(Pk.zero,5)
 else
  let x:=pkT kind (q6u6 kind l).1.1 (q6u6 kind l).1.2
  let e:=if endK kind l≠0 then endK kind l else q1ra v x
  if e≠0 then(Pk.zero,e) else(x,0):=by
 unfold qf4x qyjk;by_cases h1:(versC v&&q5t0 kind)=false
 ·rw[if_pos h1,if_pos h1];rfl
 rw[if_neg h1,if_neg h1];by_cases h2:kind=15/\v=4
 ·rw[if_pos h2,if_pos h2];rfl
 rw[if_neg h2,if_neg h2];simp only[ne_eq,not_true_eq_false,if_false];rw[Bool.not_eq_false,Bool.and_eq_true] at h1;simp only[versC,q5t0,Bool.or_eq_true,Bool.and_eq_true,beq_iff_eq,decide_eq_true_eq] at h1;cases hp:q6gd v kind with
 |false=>
  have h5:=qm9l h1.2 h1.1 h2 hp;have e:=qsg6 kind l;have e2:(q9kh v kind ⟨l,0⟩).2=((Cs.mk l 0).rest 5 kind).2:=by unfold q9kh;rw[hp,if_neg (by decide),h5]
  rw[q0pt v kind l hp h5,e2];simp only[e.2];simp
 |true=>
  have e1:q9kh v kind ⟨l,0⟩=({Pk.zero with kind:=kind},⟨l,0⟩):=by unfold q9kh;rw[hp,if_pos rfl]
  rw[e1];simp only[qhjx];cases l with
  |nil=>
   have:pkT kind (q6u6 kind []).1.1 (q6u6 kind []).1.2={Pk.zero with kind:=kind}:=rfl
   have e0:endK kind []=0:=by
    have:=(qsg6 kind []).2 0
    rw[qhjx] at this;by_cases h:endK kind []=0
    ·exact h
    ·rw[if_pos h] at this;simp[Cs.rest] at this;exact this
   simp[this,e0]
  |cons b t=>simp
end Go.Proofs.YtefmhbioggcfaaaGreatDoor
namespace Go.Proofs.YtefmhbioggcfaaaGreatDoor
open Go.Maps (Keyed)
open Go.RowKit
def hasK:List (Int×Value)->Int->Bool
 |[],_=>false
 |p::l,i=>if i=p.1 then true else hasK l i
def qwau(P:Program)(k:TypeId)(w:World)(b:Nat)(z:Value)(l:List (Int×Value)):Prop:=
 ∃D:DataW Value,w.ownsMap P k qaha b l.length D/\(∀i,D.atKey (.int .i64 i) (.held z)=.held (q1n3 z l i))/\∀i,Maps.has D (.int .i64 i)=hasK l i
section
variable{P:Program}{k e t:TypeId}{w w':World}{b:Nat}{z:Value}{l:List (Int×Value)}
theorem qwau.of_block(h:qwau P k w b z l)(hb:w'.heap[b]?=w.heap[b]?):qwau P k w' b z l:=by obtain⟨D,⟨es,c,h1,h2⟩,h3⟩:=h;exact⟨D,⟨es,c,hb.trans h1,h2⟩,h3⟩
theorem qwau.made(w:World)(P:Program)(k:TypeId)(z:Value):qwau P k (w.alloc (.map #[] 0)) w.heap.size z []:=
 ⟨_,World.ownsMap_made _ _ _ _,fun _=>rfl,fun _=>rfl⟩
theorem qwau.look(h:qwau P k w b z l)(hk:P.underlying k=some (.int .i64))(ht:P.underlying t=some (.map k e))(hz:(zeroValue e).run P w=.ok z w){i:Int}(hi:(Lit.int .i64 i).wf=true) :
 (Instr.lookup t (.map (some b)) (.int .i64 i) true).run P w=.ok (.tuple #[q1n3 z l i,.bool (hasK l i)]) w:=by
 obtain⟨D,h1,h2,h3⟩:=h;obtain⟨v,ps,hrun,hv⟩:=h1.look_ok (Maps.int_keyed hk) ht hz (show qaha z=some (.held z,[]) from rfl) (Maps.keyOf_int_mk hk hi);rw[h2] at hv
 have:v=q1n3 z l i:=by unfold qaha at hv;simp only[Option.some.injEq,Prod.mk.injEq,DataW.held.injEq] at hv;exact hv.1
 rw[hrun,this,h3]
theorem qwau.put(h:qwau P k w b z l)(hk:P.underlying k=some (.int .i64))(ht:P.underlying t=some (.map k e))(hn:l.length<maxLen){i:Int}(hi:(Lit.int .i64 i).wf=true)(v:Value) :
 ∃w',(Instr.mapUpdate t (.map (some b)) (.int .i64 i) v).run P w=.ok () w'/\qwau P k w' b z ((i,v)::l)/\w.grownBy w' (some b):=by
 obtain⟨D,h1,h2,h4⟩:=h;have hD:Maps.IsMap D:=by obtain⟨es,c,_,_,_,e⟩:=h1;exact⟨_,e⟩
 obtain⟨w',r1,r2,r3⟩:=h1.update (Maps.int_keyed hk) ht hn (Maps.keyOf_int_mk hk hi) (show qaha v=some (.held v,[]) from rfl);refine⟨w',r1,⟨_,r2,fun j=>?_,fun j=>?_⟩,r3⟩
 ·show _=DataW.held (if j=i then v else q1n3 z l j);by_cases e:j=i
  ·subst e;rw[if_pos rfl,Maps.atKey_put_same hD (show WideAt.IsKeyLit (.int .i64 j) from trivial)]
  ·rw[if_neg e,Maps.atKey_put_other (fun x=>e (by cases x;rfl)),h2]
 ·show _=if j=i then true else hasK l j;by_cases e:j=i
  ·subst e;rw[if_pos rfl,Maps.has_put_same hD (show WideAt.IsKeyLit (.int .i64 j) from trivial)]
  ·rw[if_neg e,Maps.has_put_other (fun x=>e (by cases x;rfl)),h4]
def qpdk(P:Program)(k:TypeId)(w0 w:World)(b:Nat)(z:Value)(l:List (Int×Value)):Prop:=qwau P k w b z l/\Below w0.heap.size w0 w/\w0.heap.size<=b
theorem q6d2{ops:Array Oper}{rest:List Oper}{o:Oper}{a:Act}{Q:Exit->Act->World->Prop}{w0:World}
 (hg:o.guard=none) (m x v:Operand) (t:TypeId) (hop:o.op=Op.insert t m x v) (k e:TypeId) (hk:P.underlying k=some (.int .i64)) (ht:P.underlying t=some (.map k e))
 (b:Nat) (z:Value) (l:List (Int×Value)) (hm:a.eval m=.map (some b)) (h:qpdk P k w0 w b z l) (hn:l.length<maxLen) (i:Int) (val:Value) (hx:a.eval x=.int .i64 i) (hv:a.eval v=val) (hi:(Lit.int .i64 i).wf=true)
 (hK:∀w',qpdk P k w0 w' b z ((i,val)::l)->wpList P ops Q rest (a.put o.dst undef) w') :
 wpList P ops Q (o::rest) a w:=by
 refine wpList_plain hg fun K' hK'=>?_;obtain⟨h1,h2,h3⟩:=h;obtain⟨w',hrun,r1,r2⟩:=h1.put hk ht hn hi val;unfold Oper.wp;simp[execOp,hop,hm,hx,hv,hrun,Result.andThen];exact hK' _ _ (hK w' ⟨r1,h2.grown r2 h2.size (fun j hj=>by cases hj;exact h3),h3⟩)
end
end Go.Proofs.YtefmhbioggcfaaaGreatDoor
namespace Go.Proofs.YtefmhbioggcfaaaGreatDoor
open Go.RowKit
theorem qp2i{v kind:Int}{l:List Pr}(h:rightC v kind l=0):(tailC v kind l).length<=300000000:=by
 unfold tailC;unfold rightC at h;split
 ·rename_i h5;rw[if_pos h5] at h;obtain⟨_,_,_,h4⟩:=qpfx h;unfold q5aq;rw[if_neg (by simpa using h),List.length_append,q8sw]
  have:=qnl4 (q636 l).length h4
  omega
 ·exact Nat.zero_le _
end Go.Proofs.YtefmhbioggcfaaaGreatDoor
namespace Go.Proofs.YtefmhbioggcfaaaGreatDoor
def qbi7(v:Int)(p:Pk):Pk:={Pk.zero with kind:=p.kind,dup:=p.dup,retain:=p.retain,qos:=p.qos,id:=p.id,topic:=p.topic,payload:=p.payload,props:=if v=5 then p.props else []}
def idU(p:Pk):Bool:=if p.qos=0 then p.id==0 else decide (0<p.id)&&decide (p.id<=65535)
def qsuf(p:Pk):Bool:=q95c p.topic || (p.topic.isEmpty&&hasP p.props 35)
def q6ed(v:Int)(p:Pk):Nat:=
 if p.kind≠3 then 2 else if (qjyu v 3 p.dup p.retain p.qos).2≠0 then(qjyu v 3 p.dup p.retain p.qos).2
 else if (idU p&&decide (p=qbi7 v p))=false then 2 else if qsuf p=false then 10 else qpyu 3 p.props
def rawU(v:Int)(p:Pk):List UInt8:=enc2 p.topic++((if p.qos=0 then [] else be p.id.toNat 2)++(tailC v 3 p.props++p.payload))
def qtsh(v:Int)(p:Pk):List UInt8×Nat:=if q6ed v p≠0 then([],q6ed v p) else(rawU v p,0)
def qf69(f:Int):Pk:={Pk.zero with kind:=3,dup:=decide (8<=f),retain:=f%2==1,qos:=f / 2%4}
def Cs.optN(s:Cs)(b:Bool):Nat×Cs:=if b then s.num 2 else(0,s)
def qefe(v f:Int)(s:Cs):Pk×Cs:=
 let t:=s.text
 let i:=t.2.optN (f / 2%4 != 0)
 let p:=i.2.props v 3
 ({qf69 f with topic:=t.1,id:=(i.1:Nat),props:=p.1,payload:=p.2.r},p.2)
def qgrv(v f:Int)(l:List UInt8):Pk×Nat:=
 if q9d8 v ⟨3,f,0⟩≠0 then(Pk.zero,q9d8 v ⟨3,f,0⟩)
 else
  let x:=qefe v f ⟨l,0⟩
  let s:=x.2.fail (q6ed v x.1)
  if s.e≠0 then(Pk.zero,s.e) else(x.1,0)
theorem qytj{v:Int}{d r:Bool}{q:Int}:(qjyu v 3 d r q).2=0↔verH v=true/\q0xk d q=true:=by
 unfold qjyu;have hk:qbe2 v 3=true:=by simp[qbe2]
 rw[hk];cases verH v
 ·simp
 ·cases q0xk d q<;>simp
theorem qdep{v:Int}(h:verH v=true):v=4\/v=5:=by unfold verH at h;simpa using h
theorem qhc8{v:Int}{p:Pk}(h:q6ed v p=0):p.kind=3/\(v=4\/v=5)/\q0xk p.dup p.qos=true/\idU p=true/\p=qbi7 v p/\qsuf p=true/\qpyu 3 p.props=0/\(v=4->p.props=[]):=by
 rw[q6ed] at h;split at h
 ·cases h
 rename_i hk;split at h
 ·rename_i hf;exact absurd h hf
 rename_i hf;have hf:(qjyu v 3 p.dup p.retain p.qos).2=0:=by simpa using hf
 obtain⟨hv,hq⟩:=qytj.1 hf;split at h
 ·cases h
 rename_i hi;split at h
 ·cases h
 rename_i ht;rw[Bool.not_eq_false,Bool.and_eq_true,decide_eq_true_eq] at hi;refine⟨by simpa using hk,qdep hv,hq,hi.1,hi.2,by simpa using ht,h,fun h4=>?_⟩
 have:=congrArg Pk.props hi.2
 rw[this];simp[qbi7,h4]
theorem qahj{p:Pk}(h:qsuf p=true):qecx p.topic=true:=by
 unfold qsuf at h;rw[Bool.or_eq_true,Bool.and_eq_true,List.isEmpty_iff] at h;rcases h with h|⟨h,_⟩
 ·exact qmh4 h
 ·rw[h];decide
theorem qlep{f:Int}(h:qg3k 3 f=true):q0xk (decide (8<=f)) (f / 2%4)=true/\qgl0 (decide (8<=f)) (f%2==1) (f / 2%4)=f:=by
 obtain⟨h0,h1⟩:=qo5i h;obtain⟨n,rfl⟩:∃n:Nat,f=(n:Int):=⟨f.toNat,by omega⟩
 have hn:n<16:=by omega
 revert h
 clear h0 h1
 revert n
 decide+kernel
theorem q4p4(v f:Int):q9d8 v ⟨3,f,0⟩=if verH v=false then 2 else if qg3k 3 f=false then 7 else 0:=by
 unfold q9d8;have hk:qbe2 v 3=true:=by simp[qbe2]
 rw[hk];cases verH v
 ·simp
 ·cases qg3k 3 f<;>simp
theorem Cs.optN_back{s:Cs}{b:Bool}(h:(s.optN b).2.e=0):s.e=0/\s.r=(if b then be (s.optN b).1 2 else [])++(s.optN b).2.r/\(s.optN b).1<65536/\(b=false->(s.optN b).1=0):=by
 cases b
 ·exact⟨h,rfl,Nat.zero_lt_succ _,fun _=>rfl⟩
 ·obtain⟨h1,h2,h3⟩:=Cs.num_back (s:=s) (n:=2) h;exact⟨h1,h2,h3,fun e=>by cases e⟩
theorem qhpw{v f:Int}{l:List UInt8}(h:(qgrv v f l).2=0):q6ed v (qgrv v f l).1=0/\rawU v (qgrv v f l).1=l/\qgl0 (qgrv v f l).1.dup (qgrv v f l).1.retain (qgrv v f l).1.qos=f:=by
 unfold qgrv at h ⊢;split at h
 ·rename_i h1;exact absurd h h1
 rename_i h1;rw[if_neg h1];have hc:q9d8 v ⟨3,f,0⟩=0:=by simpa using h1
 simp only at h ⊢;split at h
 ·rename_i h2;exact absurd h h2
 rename_i h2;rw[if_neg h2];have h2:((qefe v f ⟨l,0⟩).2.fail (q6ed v (qefe v f ⟨l,0⟩).1)).e=0:=by simpa using h2
 obtain⟨h3,h4⟩:=qemw h2;have hfl:qg3k 3 f=true:=by
  rw[q4p4] at hc;split at hc
  ·cases hc
  ·split at hc
   ·cases hc
   ·rename_i h;simpa using h
 obtain⟨u1,u2⟩:=qlep hfl;refine⟨h4,?_,u2⟩;obtain⟨t,ht⟩:∃t,(Cs.mk l 0).text=t:=⟨_,rfl⟩
 obtain⟨i,hi⟩:∃i,t.2.optN (f / 2%4 != 0)=i:=⟨_,rfl⟩
 obtain⟨p,hp⟩:∃p,i.2.props v 3=p:=⟨_,rfl⟩
 have hx:qefe v f ⟨l,0⟩=({qf69 f with topic:=t.1,id:=(i.1:Nat),props:=p.1,payload:=p.2.r},p.2):=by subst ht hi hp;rfl
 rw[hx] at h3 ⊢;have h3:p.2.e=0:=h3;rw[<-hp] at h3;obtain⟨b1,b2,_,b4⟩:=Cs.props_back h3;rw[hp] at b2 b4;rw[<-hi] at b1;obtain⟨c1,c2,c3,c4⟩:=Cs.optN_back b1;rw[hi] at c2 c3 c4;rw[<-ht] at c1;obtain⟨_,d2,_⟩:=Cs.text_back c1;rw[ht] at d2;have d2:l=enc2 t.1++t.2.r:=d2;rw[d2,c2,b2];have hb:(if (f / 2%4 != 0)=true then be i.1 2 else [])=if f / 2%4=0 then [] else be i.1 2:=by
  by_cases h0:f / 2%4=0
  ·simp[h0]
  ·simp[h0]
 rw[hb]
 rfl
def tl(ls:List (List UInt8)):Nat:=(ls.map fun l=>l.length+1).sum
section
variable{s:List UInt8}(hn:q95c s=true)(hs:s.length<=200)
end
def share:List UInt8:=[36,115,104,97,114,101]
def qar3(s:List UInt8):List UInt8×List UInt8×Bool:=
 match lvls s with
 |h::g::f::ls=>if qecx s=true/\h=share/\g≠[]/\(43:UInt8)∉g/\(35:UInt8)∉g/\qw8n (q8nq (f::ls))=true then(g,q8nq (f::ls),true) else([],[],false)
 |_=>([],[],false)
theorem qt0s:(47:UInt8)∉share:=by decide
theorem qe2w(s:List UInt8):(∃g f,qar3 s=(g,f,true)/\s=share++47::(g++47::f)/\g≠[]/\qw8n f=true/\qecx s=true/\(43:UInt8)∉g/\(35:UInt8)∉g/\(47:UInt8)∉g)\/qar3 s=([],[],false):=by
 unfold qar3;have hj:=qz8l s;have hf:=qxp9 s;split
 ·rename_i h g f ls e;rw[e] at hj hf;split
  ·rename_i hc;obtain⟨h1,rfl,h3,h4,h5,h6⟩:=hc;refine .inl ⟨g,q8nq (f::ls),rfl,?_,h3,h6,h1,h4,h5,hf g (by simp)⟩;rw[<-hj,qcnz _ (by simp),qcnz g (by simp)]
  ·exact .inr rfl
 ·exact .inr rfl
def qsfj(k:Int):Bool:=k==8 || k==10
def qfws(k:Int):Bool:=decide (8<=k)&&decide (k<=11)
def qumw(v:Int)(p:Pk):Pk:={Pk.zero with kind:=p.kind,id:=p.id,props:=p.props,filters:=if qsfj p.kind then p.filters else [],codes:=if !qsfj p.kind&&(p.kind==9 || v==5) then p.codes else []}
def okS(v:Int)(p:Pk):Bool:=
 versC v&&qfws p.kind&&decide (p=qumw v p)&&(decide (1<=p.id)&&decide (p.id<=65535))&&!(v==4&&!p.props.isEmpty)&&!(p.filters.isEmpty&&p.codes.isEmpty&&!(p.kind==11&&v==4))
def q7yu(f:Fi):Fi:=⟨f.topic,0,false,false,0⟩
def optS(v kind:Int)(f:Fi):Bool:=
 if kind=10 then decide (f=q7yu f)
 else(decide (0<=f.qos)&&decide (f.qos<=2)&&(decide (0<=f.handling)&&decide (f.handling<=2)))&&if v=4 then !f.noLocal&&!f.asPub&&f.handling==0 else !f.noLocal || !(qar3 f.topic).2.2
def q190(v kind n:Int):Bool:=if v=4 then qw69 n else mayR kind n
def qlck(v kind:Int):List Fi->Nat
 |[]=>0
 |f::l=>if qw8n f.topic=false then 10 else if optS v kind f=false then 2 else qlck v kind l
def qq92(v kind:Int):List Int->Nat
 |[]=>0
 |c::l=>if q190 v kind c=false then 2 else qq92 v kind l
def q3m2(v:Int)(p:Pk):Nat:=
 if okS v p=false then 2 else if rightC v p.kind p.props≠0 then rightC v p.kind p.props else if qlck v p.kind p.filters≠0 then qlck v p.kind p.filters else qq92 v p.kind p.codes
def qang(f:Fi):Nat:=(f.qos%4).toNat+16*(f.handling%4).toNat+bitC f.noLocal 4+bitC f.asPub 8
def qjk5(kind:Int)(f:Fi):List UInt8:=enc2 f.topic++if kind=8 then [UInt8.ofNat (qang f)] else []
def q56c(l:List Int):List UInt8:=l.map fun c=>UInt8.ofNat c.toNat
def rawS(v:Int)(p:Pk):List UInt8:=be p.id.toNat 2++(tailC v p.kind p.props++(p.filters.flatMap (qjk5 p.kind)++q56c p.codes))
def qktk(v:Int)(p:Pk):List UInt8×Nat:=if q3m2 v p≠0 then([],q3m2 v p) else(rawS v p,0)
def q7vq(t:List UInt8)(n:Nat):Fi:=⟨t,(n%4:Nat),n / 4%2==1,n / 8%2==1,(n / 16%4:Nat)⟩
def Cs.filt(s:Cs)(v kind:Int):Fi×Cs:=
 let t:=s.text
 if kind=10 then(⟨t.1,0,false,false,0⟩,t.2)
 else
  let n:=t.2.num 1
  (q7vq t.1 n.1,if 63<n.1\/(v=4/\3<n.1) then n.2.fail 7 else n.2)
def Cs.filts(v kind:Int):Nat->Cs->List Fi×Cs
 |0,s=>([],s)
 |n+1,s=>if s.e≠0\/s.r=[] then([],s) else((s.filt v kind).1::(Cs.filts v kind n (s.filt v kind).2).1,(Cs.filts v kind n (s.filt v kind).2).2)
def Cs.codes(s:Cs):List Int×Cs:=if s.e≠0 then([],s) else(s.r.map (fun b=>((b.toNat:Nat):Int)),⟨[],0⟩)
def q7qx(v kind:Int)(s:Cs):Pk×Cs:=
 let i:=s.num 2
 let p:=i.2.props v kind
 if qsfj kind then
  let f:=Cs.filts v kind p.2.r.length p.2
  ({Pk.zero with kind:=kind,id:=(i.1:Nat),props:=p.1,filters:=f.1},f.2)
 else({Pk.zero with kind:=kind,id:=(i.1:Nat),props:=p.1,codes:=p.2.codes.1},p.2.codes.2)
def q98d(v kind:Int)(l:List UInt8):Pk×Nat:=
 if (versC v&&qfws kind)=false then(Pk.zero,2)
 else
  let x:=q7qx v kind ⟨l,0⟩
  let s:=qveh x.2 (q3m2 v x.1)
  if s.e≠0 then(Pk.zero,s.e) else(x.1,0)
theorem q7kh(t:List UInt8){n:Nat}(h:n<=63):qang (q7vq t n)=n:=by
 have h2:∀m,m<64->qang (q7vq [] m)=m:=by decide+kernel
 have:=h2 n (by omega)
 exact this
theorem qme0{t:List UInt8}(h:qw8n t=true):qecx t=true:=by simp only[qw8n,Bool.and_eq_true] at h;exact h.1.2
theorem q267{v kind:Int}:∀{l:List Fi},qlck v kind l=0->∀f∈l,qw8n f.topic=true/\optS v kind f=true
 |[],_,f,hf=>by cases hf
 |g::l,h,f,hf=>by
  unfold qlck at h;split at h
  ·cases h
  split at h
  ·cases h
  rename_i h1 h2;rcases List.mem_cons.1 hf with rfl|hf
  ·exact⟨by simpa using h1,by simpa using h2⟩
  ·exact q267 h f hf
theorem q6r9{v kind:Int}:∀{l:List Int},qq92 v kind l=0->∀c∈l,q190 v kind c=true
 |[],_,f,hf=>by cases hf
 |g::l,h,f,hf=>by
  unfold qq92 at h;split at h
  ·cases h
  rename_i h1;rcases List.mem_cons.1 hf with rfl|hf
  ·simpa using h1
  ·exact q6r9 h f hf
theorem qzk9{v kind c:Int}(h:q190 v kind c=true):0<=c/\c<163:=by
 unfold q190 at h;split at h
 ·simp only[qw69,Bool.or_eq_true,beq_iff_eq] at h;omega
 ·simp only[mayR,Bool.and_eq_true,decide_eq_true_eq] at h
  have:=q5yb (grp kind) (qljz kind) c.toNat (by simpa using h.2)
  omega
theorem ok_s{v:Int}{p:Pk}(h:okS v p=true):(v=4\/v=5)/\(8<=p.kind/\p.kind<=11)/\p=qumw v p/\(1<=p.id/\p.id<=65535)/\(v=4->p.props=[])/\(p.filters=[]->p.codes=[]->p.kind=11/\v=4):=by
 unfold okS at h;simp only[Bool.and_eq_true,Bool.or_eq_true,beq_iff_eq,decide_eq_true_eq,versC,qfws] at h;obtain⟨⟨⟨⟨⟨hv,hk⟩,hu⟩,hi⟩,h4⟩,he⟩:=h;refine⟨hv,hk,hu,hi,fun e=>?_,fun e1 e2=>?_⟩
 ·subst e;simpa using h4
 ·rw[e1,e2] at he;simpa using he
theorem q87v{v:Int}{p:Pk}(h:q3m2 v p=0):okS v p=true/\rightC v p.kind p.props=0/\qlck v p.kind p.filters=0/\qq92 v p.kind p.codes=0:=by
 unfold q3m2 at h;split at h
 ·cases h
 split at h
 ·rename_i h1 h2;exact absurd h h2
 split at h
 ·rename_i h1 h2 h3;exact absurd h h3
 rename_i h1 h2 h3;exact⟨by simpa using h1,by simpa using h2,by simpa using h3,h⟩
theorem q9zy{k:Int}(hk:8<=k/\k<=11):(qsfj k=true/\(k=8\/k=10))\/(qsfj k=false/\(k=9\/k=11)):=by
 obtain rfl|rfl|rfl|rfl:k=8\/k=9\/k=10\/k=11:=by omega
 ·exact .inl ⟨rfl,.inl rfl⟩
 ·exact .inr ⟨rfl,.inl rfl⟩
 ·exact .inl ⟨rfl,.inr rfl⟩
 ·exact .inr ⟨rfl,.inr rfl⟩
theorem qmqi{v:Int}{p:Pk}(hu:p=qumw v p):(qsfj p.kind=true->p.codes=[])/\(qsfj p.kind=false->p.filters=[]):=by
 constructor
 ·intro h
  have:=congrArg Pk.codes hu
  rw[qumw,h] at this;simpa using this
 ·intro h
  have:=congrArg Pk.filters hu
  rw[qumw,h] at this;simpa using this
theorem q0ul(kind:Int)(f:Fi):qjk5 kind f≠[]:=by
 intro e
 have:=congrArg List.length e
 rw[qjk5,List.length_append,qnp6,List.length_nil] at this;omega
theorem q749{s:Cs}{v kind:Int}(hk:kind=8\/kind=10)(h:(s.filt v kind).2.e=0):s.e=0/\s.r=qjk5 kind (s.filt v kind).1++(s.filt v kind).2.r:=by
 rcases hk with rfl|rfl
 ·unfold Cs.filt at h ⊢;simp only[show ¬((8:Int)=10) by decide,if_false] at h ⊢;obtain⟨n,hn⟩:∃n,s.text.2.num 1=n:=⟨_,rfl⟩
  rw[hn] at h ⊢;by_cases hb:63<n.1\/(v=4/\3<n.1)
  ·rw[if_pos hb] at h;exact absurd (Cs.fail_no h).2 (by decide)
  ·rw[if_neg hb] at h ⊢;have h1:=Cs.num_back (s:=s.text.2) (n:=1) (by rw[hn];exact h);rw[hn,qpzx] at h1;obtain⟨h2,h3,_⟩:=h1;obtain⟨h4,h5,_⟩:=Cs.text_back h2;refine⟨h4,?_⟩;have hx:n.1<=63:=by
    rcases Nat.lt_or_ge 63 n.1 with h|h
    ·exact absurd (.inl h) hb
    ·exact h
   show s.r=qjk5 8 (q7vq s.text.1 n.1)++n.2.r;rw[qjk5,if_pos rfl,q7kh _ hx];show s.r=enc2 s.text.1++[UInt8.ofNat n.1]++n.2.r;rw[List.append_assoc,<-h3];exact h5
 ·unfold Cs.filt at h ⊢;simp only[if_true] at h ⊢;obtain⟨h4,h5,_⟩:=Cs.text_back h;refine⟨h4,?_⟩;rw[qjk5,if_neg (by decide),List.append_nil];exact h5
theorem qo9t{v kind:Int}(hk:kind=8\/kind=10):∀(n:Nat) (s:Cs),(Cs.filts v kind n s).2.e=0->(Cs.filts v kind n s).2.r=[]->s.e=0/\s.r=(Cs.filts v kind n s).1.flatMap (qjk5 kind)
 |0,s,h,hr=>⟨h,hr⟩
 |n+1,s,h,hr=>by
  unfold Cs.filts at h hr ⊢;split at h
  ·rename_i hc;rw[if_pos hc] at hr ⊢;exact⟨h,hr⟩
  ·rename_i hc;rw[if_neg hc] at hr ⊢;obtain⟨h1,h2⟩:=qo9t hk n _ h hr;obtain⟨h3,h4⟩:=q749 hk h1;refine⟨h3,?_⟩;rw[List.flatMap_cons,<-h2];exact h4
theorem q06l(l:List UInt8):q56c (l.map fun b=>((b.toNat:Nat):Int))=l:=by
 unfold q56c;rw[List.map_map]
 conv=>rhs;rw[<-List.map_id l]
 refine List.map_congr_left fun b _=>?_;show UInt8.ofNat (((b.toNat:Nat):Int)).toNat=b;rw[Int.toNat_natCast];simp
theorem q3vn{x:Cs}{f:Nat}(h:(qveh x f).e=0):x.e=0/\x.r=[]/\f=0:=by
 unfold qveh at h;obtain⟨h1,h2⟩:=qemw h;by_cases hx:x.e=0/\x.r≠[]
 ·rw[if_pos hx] at h1;exact absurd (qemw h1).2 (by decide)
 ·rw[if_neg hx] at h1;refine⟨h1,?_,h2⟩;by_cases hr:x.r=[]
  ·exact hr
  ·exact absurd ⟨h1,hr⟩ hx
theorem q6to{v k:Int}{s:Cs}(hk:8<=k/\k<=11)(h:(q7qx v k s).2.e=0)(hr:(q7qx v k s).2.r=[]):s.e=0/\s.r=rawS v (q7qx v k s).1/\(q7qx v k s).1.kind=k:=by
 obtain⟨i,hi⟩:∃i,s.num 2=i:=⟨_,rfl⟩
 obtain⟨p,hp⟩:∃p,i.2.props v k=p:=⟨_,rfl⟩
 have fin:∀(rest:List UInt8),p.2.e=0->p.2.r=rest->s.e=0/\s.r=be i.1 2++(tailC v k p.1++rest):=fun rest he hrr=>by have h1:=Cs.props_back (s:=i.2) (v:=v) (kind:=k) (by rw[hp];exact he);rw[hp,hrr] at h1;have h2:=Cs.num_back (s:=s) (n:=2) (by rw[hi];exact h1.1);rw[hi] at h2;exact⟨h2.1,by rw[<-h1.2.1];exact h2.2.1⟩
 unfold q7qx at h hr ⊢;simp only[hi,hp] at h hr ⊢;rcases q9zy hk with ⟨ha,hkk⟩|⟨ha,hkk⟩
 ·rw[if_pos ha] at h hr ⊢;obtain⟨h1,h2⟩:=qo9t hkk _ _ h hr;obtain⟨h3,h4⟩:=fin _ h1 h2;refine⟨h3,?_,rfl⟩;show s.r=be i.1 2++(tailC v k p.1++((Cs.filts v k p.2.r.length p.2).1.flatMap (qjk5 k)++q56c []))
  rw[show q56c []=[] from rfl,List.append_nil];exact h4
 ·rw[if_neg (by rw[ha];decide)] at h hr ⊢;unfold Cs.codes at h hr ⊢;by_cases he:p.2.e=0
  ·rw[if_neg (by simpa using he)] at h hr ⊢;obtain⟨h3,h4⟩:=fin _ he rfl;refine⟨h3,?_,rfl⟩;show s.r=be i.1 2++(tailC v k p.1++([]++q56c (p.2.r.map fun b=>((b.toNat:Nat):Int))))
   rw[q06l,List.nil_append];exact h4
  ·rw[if_pos he] at h;exact absurd h he
theorem qy13{v k:Int}{l:List UInt8}(h:(q98d v k l).2=0):q3m2 v (q98d v k l).1=0/\rawS v (q98d v k l).1=l/\(q98d v k l).1.kind=k:=by
 unfold q98d at h ⊢;split at h
 ·cases h
 rename_i h1;rw[if_neg h1];simp only at h ⊢;split at h
 ·rename_i h2;exact absurd h h2
 rename_i h2;rw[if_neg h2];have h2:(qveh (q7qx v k ⟨l,0⟩).2 (q3m2 v (q7qx v k ⟨l,0⟩).1)).e=0:=by simpa using h2
 obtain⟨h3,h4,h5⟩:=q3vn h2;have hk:8<=k/\k<=11:=by rw[Bool.not_eq_false,Bool.and_eq_true] at h1;simpa [qfws] using h1.2
 obtain⟨_,h6,h7⟩:=q6to hk h3 h4;exact⟨h5,h6.symm,h7⟩
def qc11(v:Int)(p:Pk):Nat:=
 if p.kind<=2 then validC v p else if p.kind=3 then q6ed v p else if p.kind<=7 then qryp v p else if p.kind<=11 then q3m2 v p else q1ra v p
def qx3b(v:Int)(p:Pk):List UInt8:=
 if p.kind<=2 then rawC v p else if p.kind=3 then rawU v p else if p.kind<=7 then rawA v p else if p.kind<=11 then rawS v p else rawK v p
def qdvz(v:Int)(h:Hd)(l:List UInt8):Pk×Nat:=
 if h.kind<=2 then q56s v h.kind l else if h.kind=3 then qgrv v h.flags l else if h.kind<=7 then q9uf v h.kind l else if h.kind<=11 then q98d v h.kind l else qf4x v h.kind l
def q8s2(v:Int)(p:Pk):Nat:=
 if verH v=false then 2 else if qbe2 v p.kind=false then 8 else if qc11 v p≠0 then qc11 v p else if 268435455<(qx3b v p).length then 4 else 0
def q9sw(v:Int)(p:Pk):Hd:=⟨p.kind,(qjyu v p.kind p.dup p.retain p.qos).1,((qx3b v p).length:Nat)⟩
def rawM(v:Int)(p:Pk):List UInt8:=rawH (q9sw v p)++qx3b v p
def qk4b(v:Int)(p:Pk):List UInt8×Nat:=if q8s2 v p≠0 then([],q8s2 v p) else(rawM v p,0)
def qyib(v:Int)(l:List UInt8):Pk×Nat×Nat:=
 let h:=qday v l
 if h.2.2≠0 then(Pk.zero,0,h.2.2)
 else if ((l.length-h.2.1:Nat):Int)<h.1.length then(Pk.zero,0,3)
 else
  let r:=qdvz v h.1 ((l.drop h.2.1).take h.1.length.toNat)
  if r.2≠0 then(Pk.zero,0,if r.2=3 then 5 else r.2) else(r.1,h.2.1+h.1.length.toNat,0)
theorem q31v{v:Int}{p:Pk}(h:q8s2 v p=0):verH v=true/\qbe2 v p.kind=true/\qc11 v p=0/\(qx3b v p).length<=268435455:=by
 unfold q8s2 at h;split at h
 ·cases h
 split at h
 ·cases h
 split at h
 ·rename_i h1;exact absurd h h1
 split at h
 ·cases h
 rename_i h1 h2 h3 h4;exact⟨by simpa using h1,by simpa using h2,by simpa using h3,by omega⟩
theorem qctd{v:Int}{p:Pk}(h1:verH v=true)(h2:qbe2 v p.kind=true)(h3:qc11 v p=0):(qjyu v p.kind p.dup p.retain p.qos).2=0:=by
 by_cases hk:p.kind=3
 ·unfold qc11 at h3;rw[if_neg (by omega),if_pos hk] at h3;obtain⟨_,_,hq,_⟩:=qhc8 h3;rw[hk];exact qytj.2 ⟨h1,hq⟩
 ·unfold qjyu;rw[h1,h2];simp only[Bool.true_eq_false,if_false,if_neg hk];split<;>rfl
theorem qlyn{v:Int}{p:Pk}(h:q8s2 v p=0):q9d8 v (q9sw v p)=0:=by obtain⟨h1,h2,h3,h4⟩:=q31v h;exact qri3.2 ⟨h1,h2,(qhp2 (qctd h1 h2 h3)).2.2,Int.natCast_nonneg _,by show(((qx3b v p).length:Nat):Int)<=_;omega⟩
theorem qbl2(v:Int)(p:Pk):(rawM v p).length=(rawH (q9sw v p)).length+(qx3b v p).length:=by unfold rawM;rw[List.length_append]
theorem qel0{v:Int}{h:Hd}{l:List UInt8}(hc:q9d8 v h=0)(hr:(qdvz v h l).2=0):qc11 v (qdvz v h l).1=0/\qx3b v (qdvz v h l).1=l/\(qdvz v h l).1.kind=h.kind/\(qjyu v h.kind (qdvz v h l).1.dup (qdvz v h l).1.retain (qdvz v h l).1.qos).1=h.flags:=by
 obtain⟨h1,h2,h3,h4⟩:=qri3.1 hc;have fl:∀(q:Pk),h.kind≠3->(qjyu v h.kind q.dup q.retain q.qos).1=h.flags:=fun q hk=>by
  have hz:(qjyu v h.kind q.dup q.retain q.qos).2=0:=by unfold qjyu;rw[h1,h2];simp only[Bool.true_eq_false,if_false,if_neg hk];split<;>rfl
  have:=q25l (f:=h.flags) hz hk
  rw[h3] at this;exact(beq_iff_eq.1 this.symm).symm
 unfold qdvz at hr ⊢;unfold qc11 qx3b;by_cases k1:h.kind<=2
 ·rw[if_pos k1] at hr ⊢;obtain⟨⟨q,e⟩,hq⟩:∃z,q56s v h.kind l=z:=⟨_,rfl⟩
  rw[hq] at hr ⊢;obtain rfl:e=0:=hr;obtain⟨a1,a2,a3⟩:=qqbo hq;simp only;rw[a3,if_pos k1,if_pos k1];exact⟨a1,a2,rfl,fl q (by omega)⟩
 rw[if_neg k1] at hr ⊢;by_cases k2:h.kind=3
 ·rw[if_pos k2] at hr ⊢;obtain⟨a1,a2,a3⟩:=qhpw hr;obtain⟨b1,_,hq,_⟩:=qhc8 a1;rw[b1];rw[if_neg (by decide),if_pos rfl,if_neg (by decide),if_pos rfl,k2];refine⟨a1,a2,rfl,?_⟩;generalize (qgrv v h.flags l).1=q at *;unfold qjyu;rw[h1,show qbe2 v 3=true by rw[<-k2];exact h2];simp only[Bool.true_eq_false,if_false];rw[if_neg (by omega),if_pos trivial,if_pos hq];exact a3
 rw[if_neg k2] at hr ⊢;by_cases k3:h.kind<=7
 ·rw[if_pos k3] at hr ⊢;obtain⟨a1,a2,a3⟩:=qgvz hr;rw[a3];rw[if_neg k1,if_neg k2,if_pos k3,if_neg k1,if_neg k2,if_pos k3];exact⟨a1,a2,rfl,fl _ k2⟩
 rw[if_neg k3] at hr ⊢;by_cases k4:h.kind<=11
 ·rw[if_pos k4] at hr ⊢;obtain⟨a1,a2,a3⟩:=qy13 hr;rw[a3];rw[if_neg k1,if_neg k2,if_neg k3,if_pos k4,if_neg k1,if_neg k2,if_neg k3,if_pos k4];exact⟨a1,a2,rfl,fl _ k2⟩
 rw[if_neg k4] at hr ⊢;obtain⟨a1,a2,a3⟩:=qpsx hr;rw[a3];rw[if_neg k1,if_neg k2,if_neg k3,if_neg k4,if_neg k1,if_neg k2,if_neg k3,if_neg k4];exact⟨a1,a2,rfl,fl _ k2⟩
theorem qwwt{v:Int}{l:List UInt8}(h:(qyib v l).2.2=0):(qday v l).2.2=0/\¬(((l.length-(qday v l).2.1:Nat):Int)<(qday v l).1.length)/\(qdvz v (qday v l).1 ((l.drop (qday v l).2.1).take (qday v l).1.length.toNat)).2=0/\
 qyib v l=((qdvz v (qday v l).1 ((l.drop (qday v l).2.1).take (qday v l).1.length.toNat)).1,(qday v l).2.1+(qday v l).1.length.toNat,0):=by
 unfold qyib at h ⊢;simp only at h ⊢;by_cases h1:(qday v l).2.2≠0
 ·rw[if_pos h1] at h;exact absurd h h1
 rw[if_neg h1] at h ⊢;by_cases h2:((l.length-(qday v l).2.1:Nat):Int)<(qday v l).1.length
 ·rw[if_pos h2] at h;cases h
 rw[if_neg h2] at h ⊢;by_cases h3:(qdvz v (qday v l).1 ((l.drop (qday v l).2.1).take (qday v l).1.length.toNat)).2≠0
 ·rw[if_pos h3] at h;exfalso;by_cases h4:(qdvz v (qday v l).1 ((l.drop (qday v l).2.1).take (qday v l).1.length.toNat)).2=3
  ·rw[if_pos h4] at h;cases h
  ·rw[if_neg h4] at h;exact h3 h
 rw[if_neg h3];exact⟨by simpa using h1,h2,by simpa using h3,rfl⟩
end Go.Proofs.YtefmhbioggcfaaaGreatDoor
