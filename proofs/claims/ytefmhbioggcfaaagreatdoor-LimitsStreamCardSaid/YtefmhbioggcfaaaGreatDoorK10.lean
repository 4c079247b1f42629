/- A ghost: where a list lies, its capacity. No condition. -/
import Derived.Deep.LoopGhost
import Derived.Test.YtefmhbioggcfaaaGreatDoorK08
import Derived.Test.YtefmhbioggcfaaaGreatDoorK09
namespace Go.Proofs.YtefmhbioggcfaaaGreatDoor
def gA(x:Option (Option Addr×Nat)):Option Addr:=(x.getD (none,0)).1
def gC(x:Option (Option Addr×Nat)):Nat:=(x.getD (none,0)).2
end Go.Proofs.YtefmhbioggcfaaaGreatDoor
namespace Go.Proofs.YtefmhbioggcfaaaGreatDoor
open Go.RowKit
structure BxS(w:World)(p:Pk)(a:Ad)(W:World):Prop where
 low:Below w.heap.size w W
 box:W.heap[w.heap.size]?=some (.cells (pkC p a) 38 (0,0))
theorem BxS.made(w:World)(p:Pk)(a:Ad):BxS w p a (w.alloc (.cells (pkC p a) 38)):=⟨qybm _,heap_alloc_new _ _⟩
theorem BxS.call{w W W':World}{p:Pk}{a:Ad}(h:BxS w p a W)(hb:Below W.heap.size W W'):BxS w p a W':=⟨qxh2 h.low hb,(hb.block _ (lt_of_block h.box)).trans h.box⟩
theorem BxS.draw{w W:World}{p:Pk}{a:Ad}(h:BxS w p a W):BxS w p a W.drew:=⟨h.low.drew,h.box⟩
theorem BxS.cell{w W:World}{p:Pk}{a:Ad}(h:BxS w p a W)(j:Nat):W.cell? ⟨w.heap.size,j,none⟩=(pkC p a)[j]? := cell_of_row _ _ j _ _ _ h.box
theorem qo4g{w W:World}{B b j:Nat}{u:Value}(h:Below B w W)(hb:B<=b):Below B w (W.setCell ⟨b,j,none⟩ u):=h.setCell (show B<=(⟨b,j,none⟩:Addr).block from hb) u
theorem qv6p{W:World}{b j:Nat}{u:Value}{C D:Array Value}{t:TypeId}(h:W.heap[b]?=some (.cells C t (0,0)))(he:C.setIfInBounds j u=D):(W.setCell ⟨b,j,none⟩ u).heap[b]?=some (.cells D t (0,0)):=by
 have:=qlvy h j u
 rw[he] at this;exact this
theorem qacl{w W:World}{B:Nat}{r:Option Nat}(h:w.grownBy W r)(hB:w.heap.size<=B)(D:Array Value):w.grownBy (W.setRow B D) r:=
 ⟨h.os,h.tape,h.output,by have:=h.size;simpa [World.setRow] using this,fun k hk hne=>(setRow_other _ _ _ _ (by omega)).trans (h.block k hk hne)⟩
theorem q573(W:World)(B:Nat)(D:Array Value):W.grownBy (W.setRow B D) (some B):=
 ⟨rfl,rfl,rfl,by simp[World.setRow],fun k _ hne=>setRow_other _ _ _ _ (fun e=>hne (congrArg some e))⟩
theorem qgiq(w:World)(x y:Nat):(w.drewN x).drewN y=w.drewN (x+y):=by simp[World.drewN,Nat.add_assoc]
theorem qs8g{T:Type}{l m:List T}{n:Nat}(hl:l.length=n)(hm:m.length=n)(h:∀j p q,j<n->l[j]?=some p->m[j]?=some q->p=q):l=m:=by
 apply List.ext_getElem?;intro j;by_cases hj:j<n
 ·rw[List.getElem?_eq_getElem (by omega),List.getElem?_eq_getElem (by omega)];exact congrArg some (h j _ _ hj (List.getElem?_eq_getElem (by omega)) (List.getElem?_eq_getElem (by omega)))
 ·rw[List.getElem?_eq_none (by omega),List.getElem?_eq_none (by omega)]
theorem qzlf(p q:Pr):p=q\/(p.id==q.id)=false\/(p.id=q.id/\(((p.n:Nat):Int)==((q.n:Nat):Int))=false)\/(p.id=q.id/\p.n=q.n/\((bs p.text).toList==(bs q.text).toList)=false)\/(p.id=q.id/\p.n=q.n/\p.text=q.text/\((bs p.value).toList==(bs q.value).toList)=false):=by
 obtain⟨a,b,c,d⟩:=p;obtain⟨a',b',c',d'⟩:=q;simp only[q0c6];by_cases h1:a=a'
 ·by_cases h2:b=b'
  ·by_cases h3:c=c'
   ·by_cases h4:d=d'
    ·subst h1 h2 h3 h4;exact .inl rfl
    ·exact .inr (.inr (.inr (.inr ⟨h1,h2,h3,by rw[beq_eq_false_iff_ne];exact h4⟩)))
   ·exact .inr (.inr (.inr (.inl ⟨h1,h2,by rw[beq_eq_false_iff_ne];exact h3⟩)))
  ·exact .inr (.inr (.inl ⟨h1,by rw[beq_eq_false_iff_ne];omega⟩))
 ·exact .inr (.inl (by rw[beq_eq_false_iff_ne];exact h1))
def fiV(f:Fi):Value := .agg #[.string (bs f.topic),.int .i64 f.qos,.bool f.noLocal,.bool f.asPub,.int .i64 f.handling]
theorem qpuj(p q:Fi):p=q\/((bs p.topic).toList==(bs q.topic).toList)=false\/(p.topic=q.topic/\(p.qos==q.qos)=false)\/(p.topic=q.topic/\p.qos=q.qos/\(p.noLocal==q.noLocal)=false)\/(p.topic=q.topic/\p.qos=q.qos/\p.noLocal=q.noLocal/\(p.asPub==q.asPub)=false)\/(p.topic=q.topic/\p.qos=q.qos/\p.noLocal=q.noLocal/\p.asPub=q.asPub/\(p.handling==q.handling)=false):=by
 obtain⟨a,b,c,d,e⟩:=p;obtain⟨a',b',c',d',e'⟩:=q;simp only[q0c6];by_cases h1:a=a'
 ·by_cases h2:b=b'
  ·by_cases h3:c=c'
   ·by_cases h4:d=d'
    ·by_cases h5:e=e'
     ·subst h1 h2 h3 h4 h5;exact .inl rfl
     ·exact .inr (.inr (.inr (.inr (.inr ⟨h1,h2,h3,h4,by rw[beq_eq_false_iff_ne];exact h5⟩))))
    ·exact .inr (.inr (.inr (.inr (.inl ⟨h1,h2,h3,by rw[beq_eq_false_iff_ne];exact h4⟩))))
   ·exact .inr (.inr (.inr (.inl ⟨h1,h2,by rw[beq_eq_false_iff_ne];exact h3⟩)))
  ·exact .inr (.inr (.inl ⟨h1,by rw[beq_eq_false_iff_ne];exact h2⟩))
 ·exact .inr (.inl (by rw[beq_eq_false_iff_ne];exact h1))
theorem qd1x(p q:Int):p=q\/(p==q)=false:=by
 by_cases h:p=q
 ·exact .inl h
 ·exact .inr (by rw[beq_eq_false_iff_ne];exact h)
theorem q2a5{P:Program}{ops:Array Oper}{rest:List Oper}{o:Oper}{a:Act}{w:World}{Q:Exit->Act->World->Prop}(hw:Region.wanted o (yielded ops a.tmps)=true)(ty:TypeId)(x:Operand)(ho:o.op=.load ty x)
 (g:Nat) (hx:a.eval x=.pointer (some ⟨g,0,none⟩)) (t:TypeId) (cs:Array Value) (fr:Nat×Nat) (d:TypeDesc) (hg:w.heap[g]?=some (.cells cs t fr))
 (hu:P.underlying ty=some d) (hd:(match d with|.struct _|.array _ _=>true|_=>false)=true) (hi:(P.info? ty).map (·.size)=some cs.size)
 (h:wpList P ops Q rest (a.put o.dst (.agg cs)) w):wpList P ops Q (o::rest) a w:=by
 unfold wpList;rw[if_pos hw];exact .inl (wp_load_row ty x ho g hx t cs fr d hg hu hd hi h)
end Go.Proofs.YtefmhbioggcfaaaGreatDoor
namespace Go.Proofs.YtefmhbioggcfaaaGreatDoor
def pkT(kind:Int)(c:Nat)(l:List Pr):Pk:=pkB kind 0 c l
def qyjk(v k:Int):Bool×Nat:=if (versC v&&q5t0 k)=false then(false,2) else if k=15/\v=4 then(false,8) else(!q6gd v k,0)
def q6u6(kind:Int)(l:List UInt8):(Nat×List Pr)×Nat:=
 match l with
 |[]=>((0,[]),0)
 |b::t=>if t=[] then((b.toNat,[]),0) else((b.toNat,(qflw kind t).1),(qflw kind t).2.2)
def endK(kind:Int)(l:List UInt8):Nat:=
 if (q6u6 kind l).2≠0 then(q6u6 kind l).2 else if (q4py (q6u6 kind l).1.1 (q6u6 kind l).1.2 kind).length<l.length then 5 else 0
theorem qe40(k c:Int)(l:List Pr)(h0:¬(c=0/\l=[])):qzno 5 k c l=UInt8.ofNat c.toNat::(if l≠[] then(q5aq k l).1 else []):=by
 unfold qzno;refine if_pos ⟨rfl,?_⟩;by_cases h:c=0
 ·exact .inr fun e=>h0 ⟨h,e⟩
 ·exact .inl h
theorem qsg6(kind:Int)(l:List UInt8):(q6u6 kind l).1=((Cs.mk l 0).rest 5 kind).1/\
 ∀f,(qveh ((Cs.mk l 0).rest 5 kind).2 f).e=if endK kind l≠0 then endK kind l else f:=by
 unfold endK;cases l with
 |nil=>refine⟨rfl,fun f=>?_⟩;rw[qhjx];simp[Cs.rest,q6u6]
 |cons b t=>
  have hb0:=b.toNat_lt;have hb:UInt8.ofNat ((b.toNat:Nat):Int).toNat=b:=by simp
  have hr:(Cs.mk (b::t) 0).rest 5 kind=((b.toNat,(if t=[] then([],Cs.mk t 0) else(Cs.mk t 0).props 5 kind).1),if (if t=[] then([],Cs.mk t 0) else(Cs.mk t 0).props 5 kind).2.e=0/\(if t=[] then([],Cs.mk t 0) else(Cs.mk t 0).props 5 kind).2.r=[]/\qzno 5 kind b.toNat (if t=[] then([],Cs.mk t 0) else(Cs.mk t 0).props 5 kind).1≠b::t then(if t=[] then([],Cs.mk t 0) else(Cs.mk t 0).props 5 kind).2.fail 5 else(if t=[] then([],Cs.mk t 0) else(Cs.mk t 0).props 5 kind).2):=by unfold Cs.rest;rw[if_neg (by simp)];simp only[Cs.num_one]
  rw[hr];unfold q6u6;by_cases ht:t=[]
  ·subst ht;simp only[if_true];refine⟨trivial,fun f=>?_⟩;rw[qhjx];have e:q4py (b.toNat:Nat) [] kind=qzno 5 kind (b.toNat:Nat) []:=by
    unfold q4py;rw[if_neg (by
     rintro(h|h|h)
     ·omega
     ·omega
     ·exact h rfl)]
   rw[e];by_cases hz:b.toNat=0
   ·simp[qzno,hz,Cs.fail]
   ·simp[qzno,hz]
  ·simp only[if_neg ht];obtain⟨L,k,F,hq⟩:∃L k F,qflw kind t=(L,k,F):=⟨_,_,_,rfl⟩
   have hp:(Cs.mk t 0).props 5 kind=(L,⟨t.drop k,F⟩):=by simp[Cs.props,hq]
   rw[hp,hq];refine⟨rfl,fun f=>?_⟩;rw[qhjx];by_cases hF:F=0
   ·subst hF;obtain⟨hv,hk,hbk⟩:=qugf hq;have e:q4py (b.toNat:Nat) L kind=qzno 5 kind (b.toNat:Nat) L:=by
     unfold q4py;rw[if_neg (by
      rintro(h|h|h)
      ·omega
      ·omega
      ·exact h hv)]
    simp only[e];have hn:t.length≠0:=fun e=>ht (List.length_eq_zero_iff.1 e);by_cases hL:L=[]
    ·subst hL;have hsl:(qzno 5 kind ((b.toNat:Nat):Int) []).length<t.length+1:=by unfold qzno;split<;>simp<;>omega
     have hne:qzno 5 kind ((b.toNat:Nat):Int) []≠b::t:=fun e=>by rw[e] at hsl;simp at hsl
     by_cases hd:t.drop k=[]
     ·simp[hd,hne,hsl,Cs.fail]
     ·simp[hd,hsl]
    ·have hs:qzno 5 kind ((b.toNat:Nat):Int) L=b::t.take k:=by rw[qe40 _ _ _ (fun h=>hL h.2),if_pos hL,hb,hbk]
     rw[hs];by_cases hd:t.drop k=[]
     ·have htk:t.take k=t:=List.take_of_length_le (List.drop_eq_nil_iff.1 hd);simp[hd,htk]
     ·have hlt:k<t.length:=by
       rcases Nat.lt_or_ge k t.length with h|h
       ·exact h
       ·exact absurd (List.drop_eq_nil_iff.2 h) hd
      have hm:min k t.length<t.length:=by omega
      simp[hd,hm]
   ·simp[hF]
theorem q0pt(v kind:Int)(l:List UInt8)(hp:q6gd v kind=false)(h5:v=5):(q9kh v kind ⟨l,0⟩).1=pkT kind (q6u6 kind l).1.1 (q6u6 kind l).1.2:=by
 subst h5;unfold q9kh;rw[hp,if_neg (by decide),(qsg6 kind l).1]
 rfl
theorem q54j(v kind:Int)(l:List UInt8):qf4x v kind l=
 if (qyjk v kind).2≠0 then(Pk.zero,(qyjk v kind).2)
 else if (qyjk v kind).1=false/\l≠[] then(Pk.zero,5)
 else
  let x:=pkT kind (q6u6 kind l).1.1 (q6u6 kind l).1.2
  let e:=if endK kind l≠0 then endK kind l else q1ra v x
  if e≠0 then(Pk.zero,e) else(x,0):=by
 unfold qf4x qyjk;by_cases h1:(versC v&&q5t0 kind)=false
 ·rw[if_pos h1,if_pos h1];rfl
 rw[if_neg h1,if_neg h1];by_cases h2:kind=15/\v=4
 ·rw[if_pos h2,if_pos h2];rfl
 rw[if_neg h2,if_neg h2];simp only[ne_eq,not_true_eq_false,if_false];rw[Bool.not_eq_false,Bool.and_eq_true] at h1;simp only[versC,q5t0,Bool.or_eq_true,Bool.and_eq_true,beq_iff_eq,decide_eq_true_eq] at h1;cases hp:q6gd v kind with
 |false=>
  have h5:=qm9l h1.2 h1.1 h2 hp;have e:=qsg6 kind l;have e2:(q9kh v kind ⟨l,0⟩).2=((Cs.mk l 0).rest 5 kind).2:=by unfold q9kh;rw[hp,if_neg (by decide),h5]
  rw[q0pt v kind l hp h5,e2];simp only[e.2];simp
 |true=>
  have e1:q9kh v kind ⟨l,0⟩=({Pk.zero with kind:=kind},⟨l,0⟩):=by unfold q9kh;rw[hp,if_pos rfl]
  rw[e1];simp only[qhjx];cases l with
  |nil=>
   have:pkT kind (q6u6 kind []).1.1 (q6u6 kind []).1.2={Pk.zero with kind:=kind}:=rfl
   have e0:endK kind []=0:=by
    have:=(qsg6 kind []).2 0
    rw[qhjx] at this;by_cases h:endK kind []=0
    ·exact h
    ·rw[if_pos h] at this;simp[Cs.rest] at this;exact this
   simp[this,e0]
  |cons b t=>simp
end Go.Proofs.YtefmhbioggcfaaaGreatDoor
namespace Go.Proofs.YtefmhbioggcfaaaGreatDoor
open Go.Maps (Keyed)
open Go.RowKit
def hasK:List (Int×Value)->Int->Bool
 |[],_=>false
 |p::l,i=>if i=p.1 then true else hasK l i
def qwau(P:Program)(k:TypeId)(w:World)(b:Nat)(z:Value)(l:List (Int×Value)):Prop:=
 ∃D:DataW Value,w.ownsMap P k qaha b l.length D/\(∀i,D.atKey (.int .i64 i) (.held z)=.held (q1n3 z l i))/\∀i,Maps.has D (.int .i64 i)=hasK l i
section
variable{P:Program}{k e t:TypeId}{w w':World}{b:Nat}{z:Value}{l:List (Int×Value)}
theorem qwau.of_block(h:qwau P k w b z l)(hb:w'.heap[b]?=w.heap[b]?):qwau P k w' b z l:=by obtain⟨D,⟨es,c,h1,h2⟩,h3⟩:=h;exact⟨D,⟨es,c,hb.trans h1,h2⟩,h3⟩
theorem qwau.made(w:World)(P:Program)(k:TypeId)(z:Value):qwau P k (w.alloc (.map #[] 0)) w.heap.size z []:=
 ⟨_,World.ownsMap_made _ _ _ _,fun _=>rfl,fun _=>rfl⟩
theorem qwau.look(h:qwau P k w b z l)(hk:P.underlying k=some (.int .i64))(ht:P.underlying t=some (.map k e))(hz:(zeroValue e).run P w=.ok z w){i:Int}(hi:(Lit.int .i64 i).wf=true) :
 (Instr.lookup t (.map (some b)) (.int .i64 i) true).run P w=.ok (.tuple #[q1n3 z l i,.bool (hasK l i)]) w:=by
 obtain⟨D,h1,h2,h3⟩:=h;obtain⟨v,ps,hrun,hv⟩:=h1.look_ok (Maps.int_keyed hk) ht hz (show qaha z=some (.held z,[]) from rfl) (Maps.keyOf_int_mk hk hi);rw[h2] at hv
 have:v=q1n3 z l i:=by unfold qaha at hv;simp only[Option.some.injEq,Prod.mk.injEq,DataW.held.injEq] at hv;exact hv.1
 rw[hrun,this,h3]
theorem qwau.put(h:qwau P k w b z l)(hk:P.underlying k=some (.int .i64))(ht:P.underlying t=some (.map k e))(hn:l.length<maxLen){i:Int}(hi:(Lit.int .i64 i).wf=true)(v:Value) :
 ∃w',(Instr.mapUpdate t (.map (some b)) (.int .i64 i) v).run P w=.ok () w'/\qwau P k w' b z ((i,v)::l)/\w.grownBy w' (some b):=by
 obtain⟨D,h1,h2,h4⟩:=h;have hD:Maps.IsMap D:=by obtain⟨es,c,_,_,_,e⟩:=h1;exact⟨_,e⟩
 obtain⟨w',r1,r2,r3⟩:=h1.update (Maps.int_keyed hk) ht hn (Maps.keyOf_int_mk hk hi) (show qaha v=some (.held v,[]) from rfl);refine⟨w',r1,⟨_,r2,fun j=>?_,fun j=>?_⟩,r3⟩
 ·show _=DataW.held (if j=i then v else q1n3 z l j);by_cases e:j=i
  ·subst e;rw[if_pos rfl,Maps.atKey_put_same hD (show WideAt.IsKeyLit (.int .i64 j) from trivial)]
  ·rw[if_neg e,Maps.atKey_put_other (fun x=>e (by cases x;rfl)),h2]
 ·show _=if j=i then true else hasK l j;by_cases e:j=i
  ·subst e;rw[if_pos rfl,Maps.has_put_same hD (show WideAt.IsKeyLit (.int .i64 j) from trivial)]
  ·rw[if_neg e,Maps.has_put_other (fun x=>e (by cases x;rfl)),h4]
def qpdk(P:Program)(k:TypeId)(w0 w:World)(b:Nat)(z:Value)(l:List (Int×Value)):Prop:=qwau P k w b z l/\Below w0.heap.size w0 w/\w0.heap.size<=b
theorem q6d2{ops:Array Oper}{rest:List Oper}{o:Oper}{a:Act}{Q:Exit->Act->World->Prop}{w0:World}
 (hg:o.guard=none) (m x v:Operand) (t:TypeId) (hop:o.op=Op.insert t m x v) (k e:TypeId) (hk:P.underlying k=some (.int .i64)) (ht:P.underlying t=some (.map k e))
 (b:Nat) (z:Value) (l:List (Int×Value)) (hm:a.eval m=.map (some b)) (h:qpdk P k w0 w b z l) (hn:l.length<maxLen) (i:Int) (val:Value) (hx:a.eval x=.int .i64 i) (hv:a.eval v=val) (hi:(Lit.int .i64 i).wf=true)
 (hK:∀w',qpdk P k w0 w' b z ((i,val)::l)->wpList P ops Q rest (a.put o.dst undef) w') :
 wpList P ops Q (o::rest) a w:=by
 refine wpList_plain hg fun K' hK'=>?_;obtain⟨h1,h2,h3⟩:=h;obtain⟨w',hrun,r1,r2⟩:=h1.put hk ht hn hi val;unfold Oper.wp;simp[execOp,hop,hm,hx,hv,hrun,Result.andThen];exact hK' _ _ (hK w' ⟨r1,h2.grown r2 h2.size (fun j hj=>by cases hj;exact h3),h3⟩)
end
end Go.Proofs.YtefmhbioggcfaaaGreatDoor
namespace Go.Proofs.YtefmhbioggcfaaaGreatDoor
open Go.RowKit
theorem qp2i{v kind:Int}{l:List Pr}(h:rightC v kind l=0):(tailC v kind l).length<=300000000:=by
 unfold tailC;unfold rightC at h;split
 ·rename_i h5;rw[if_pos h5] at h;obtain⟨_,_,_,h4⟩:=qpfx h;unfold q5aq;rw[if_neg (by simpa using h),List.length_append,q8sw]
  have:=qnl4 (q636 l).length h4
  omega
 ·exact Nat.zero_le _
end Go.Proofs.YtefmhbioggcfaaaGreatDoor
