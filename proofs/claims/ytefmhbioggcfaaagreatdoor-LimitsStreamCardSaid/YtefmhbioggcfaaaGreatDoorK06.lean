/- Where prop.Read tells an error it tells nothing else. No program. No condition. -/
import Derived.Test.YtefmhbioggcfaaaGreatDoorK03
namespace Go.Proofs.YtefmhbioggcfaaaGreatDoor
theorem qjfk{kind:Int}{s:List UInt8}(h:(qflw kind s).2.2≠0):qflw kind s=([],0,(qflw kind s).2.2):=by
 unfold qflw at *
 repeat' split
 all_goals first|rfl|skip
 all_goals rename_i h1 h2 h3 h4;rw[if_neg h1,if_neg h2,if_neg h3,if_neg h4] at h;exact absurd rfl h
theorem qjdx(kind:Int):qflw kind []=([],0,3):=rfl
def necA(p:Pk):Nat:=if p.props≠[] then 2 else if p.code≠0 then 1 else 0
theorem qxhf(p:Pk):necA p=0\/necA p=1\/necA p=2:=by
 unfold necA;by_cases h:p.props=[]
 ·by_cases h1:p.code=0<;>simp[h,h1]
 ·simp[h]
def qolc(kind:Int)(s:Cs):(Nat×List Pr×Nat)×Cs:=
 if s.r=[] then((0,[],0),s)
 else if (s.num 1).2.r=[] then(((s.num 1).1,[],1),(s.num 1).2)
 else(((s.num 1).1,(qflw kind (s.num 1).2.r).1,2),((s.num 1).2.take (qflw kind (s.num 1).2.r).2.1).2.fail (qflw kind (s.num 1).2.r).2.2)
def midB(v kind:Int)(s:Cs):(Nat×List Pr×Nat)×Cs:=if v=5/\s.e=0 then qolc kind s else((0,[],0),s)
def pkB(kind:Int)(i c:Nat)(l:List Pr):Pk:={Pk.zero with kind:=kind,id:=(i:Nat),code:=(c:Nat),props:=l}
def qts0(v kind:Int)(s:Cs):Pk×Cs:=
 let i:=s.num 2
 let t:=midB v kind i.2
 let p:=pkB kind i.1 t.1.1 t.1.2.1
 (p,if t.2.r≠[]\/necA p<t.1.2.2 then t.2.fail 5 else t.2)
theorem Cs.num_one{b:UInt8}{t:List UInt8}:(Cs.mk (b::t) 0).num 1=(b.toNat,⟨t,0⟩):=by
 have h:=Cs.num_app (k:=b.toNat) (c:=1) (t:=t) (by have:=b.toNat_lt;omega);have e:be b.toNat 1=[b]:=by simp[be]
 rw[e] at h;exact h
theorem q1h8{kind:Int}{t:List UInt8}:((Cs.mk t 0).take (qflw kind t).2.1).2.fail (qflw kind t).2.2=⟨t.drop (qflw kind t).2.1,(qflw kind t).2.2⟩:=by
 have hle:(qflw kind t).2.1<=t.length:=by
  by_cases hF:(qflw kind t).2.2=0
  ·obtain⟨L,k,F,hq⟩:∃L k F,qflw kind t=(L,k,F):=⟨_,_,_,rfl⟩
   rw[hq] at hF ⊢;have hF:F=0:=hF;subst hF;exact(qugf hq).2.1
  ·rw[qjfk hF];exact Nat.zero_le _
 have h:¬t.length<(qflw kind t).2.1:=by omega
 simp[Cs.take,Cs.fail,h]
theorem qhjx(x:Cs)(f:Nat):(qveh x f).e=if x.e≠0 then x.e else if x.r≠[] then 5 else f:=by
 unfold qveh Cs.fail;by_cases he:x.e=0
 ·by_cases hr:x.r=[]
  ·simp[he,hr]
  ·simp[he,hr]
 ·simp[he]
def endB(p:Pk)(t:(Nat×List Pr×Nat)×Cs):Cs:=if t.2.r≠[]\/necA p<t.1.2.2 then t.2.fail 5 else t.2
theorem qiq9(y:Cs)(p:Pk)(f:Nat):(if y.e≠0 then y.e else if y.r≠[] then 5 else f)=if (endB p ((0,[],0),y)).e≠0 then(endB p ((0,[],0),y)).e else f:=by unfold endB Cs.fail;by_cases he:y.e=0<;>by_cases hr:y.r=[]<;>simp[he,hr]
theorem qn1g(v kind:Int)(y:Cs):(midB v kind y).1.1=(y.rest v kind).1.1/\(midB v kind y).1.2.1=(y.rest v kind).1.2/\
 ∀i f,(if (y.rest v kind).2.e≠0 then(y.rest v kind).2.e else if (y.rest v kind).2.r≠[] then 5 else f)=
  if (endB (pkB kind i (midB v kind y).1.1 (midB v kind y).1.2.1) (midB v kind y)).e≠0 then(endB (pkB kind i (midB v kind y).1.1 (midB v kind y).1.2.1) (midB v kind y)).e else f:=by
 obtain⟨r,e⟩:=y;unfold midB Cs.rest;by_cases h5:v=5
 ·subst h5;by_cases he:e=0
  ·subst he;rw[if_pos ⟨rfl,rfl⟩];cases r with
   |nil=>rw[if_pos (.inr (.inr rfl))];exact⟨rfl,rfl,fun i f=>qiq9 _ _ _⟩
   |cons b t=>
    rw[if_neg (by simp)];unfold qolc;rw[if_neg (show ¬(Cs.mk (b::t) 0).r=[] by simp)];simp only[Cs.num_one];cases t with
    |nil=>
     rw[if_pos rfl,if_pos rfl];refine⟨rfl,rfl,fun i f=>?_⟩;unfold endB necA pkB qzno Cs.fail;by_cases hz:b.toNat=0
     ·simp[hz]
     ·simp[hz]
    |cons c t=>
     rw[if_neg (by simp),if_neg (by simp),q1h8];obtain⟨L,k,F,hq⟩:∃L k F,qflw kind (c::t)=(L,k,F):=⟨_,_,_,rfl⟩
     have hp:(Cs.mk (c::t) 0).props 5 kind=(L,⟨(c::t).drop k,F⟩):=by simp[Cs.props,hq]
     rw[hp,hq];refine⟨rfl,rfl,fun i f=>?_⟩;by_cases hF:F=0
     ·subst hF;by_cases hd:(c::t).drop k=[]
      ·have hbk:=qugf hq;have htk:(q5aq kind L).1=c::t:=by have h3:=hbk.2.2;rw[List.take_of_length_le (List.drop_eq_nil_iff.1 hd)] at h3;exact h3
       have hb:UInt8.ofNat ((b.toNat:Nat):Int).toNat=b:=by simp
       simp only[hd];unfold endB necA pkB qzno Cs.fail;by_cases hL:L=[]
       ·subst hL;by_cases hz:b.toNat=0
        ·simp[hz]
        ·simp[hz]
       ·have hs:(if (5:Int)=5/\(((b.toNat:Nat):Int)≠0\/L≠[]) then UInt8.ofNat ((b.toNat:Nat):Int).toNat::(if L≠[] then(q5aq kind L).1 else []) else [])=b::c::t:=by rw[if_pos ⟨rfl,.inr hL⟩,if_pos hL,hb,htk]
        rw[hs];simp[hL]
      ·unfold endB Cs.fail;simp[hd]
     ·unfold endB Cs.fail;simp[hF]
  ·rw[if_neg (fun h=>he h.2),if_pos (.inr (.inl he))];exact⟨rfl,rfl,fun i f=>qiq9 _ _ _⟩
 ·rw[if_neg (fun h=>h5 h.1),if_pos (.inl h5)];exact⟨rfl,rfl,fun i f=>qiq9 _ _ _⟩
theorem qye3(v kind:Int)(s:Cs):(qts0 v kind s).1=(qngm v kind s).1:=by obtain⟨h1,h2,_⟩:=qn1g v kind (s.num 2).2;show pkB kind (s.num 2).1 (midB v kind (s.num 2).2).1.1 (midB v kind (s.num 2).2).1.2.1=pkB kind (s.num 2).1 ((s.num 2).2.rest v kind).1.1 ((s.num 2).2.rest v kind).1.2;rw[h1,h2]
theorem q2qi(v kind:Int)(s:Cs)(f:Nat):(qveh (qngm v kind s).2 f).e=if (qts0 v kind s).2.e≠0 then(qts0 v kind s).2.e else f:=by rw[qhjx];exact(qn1g v kind (s.num 2).2).2.2 (s.num 2).1 f
theorem q96o(v kind:Int)(l:List UInt8):q9uf v kind l=if (versC v&&qvya kind)=false then(Pk.zero,2) else
 let x:=qts0 v kind ⟨l,0⟩
 let e:=if x.2.e=0 then qryp v x.1 else x.2.e
 if e≠0 then(Pk.zero,e) else(x.1,0):=by
 unfold q9uf;split
 ·rfl
 ·simp only[q2qi,qye3];by_cases h:(qts0 v kind ⟨l,0⟩).2.e=0<;>simp[h]
theorem qkrc(l:List UInt8):(bs l).size=l.length:=by simp[bs,ByteArray.size]
end Go.Proofs.YtefmhbioggcfaaaGreatDoor
namespace Go.Proofs.YtefmhbioggcfaaaGreatDoor
open Go.RowKit
def qbhk(p:Pr):Value := .agg #[.int .i64 p.id,.int .u32 p.n,.string (bs p.text),.string (bs p.value)]
structure PrOk(p:Pr):Prop where
 lo:-9223372036854775808<=p.id
 hi:p.id<=9223372036854775807
 n:p.n<4294967296
 text:p.text.length<=9223372036854775807
 value:p.value.length<=9223372036854775807
def qrxu(W:World)(b:Nat)(p:Pr):Prop:=W.heap[b]?=some (.cells #[.int .i64 p.id,.int .u32 p.n,.string (bs p.text),.string (bs p.value)] 82 (0,0))
section
variable{W W':World}{b:Nat}{p:Pr}
theorem qrxu.lt(h:qrxu W b p):b<W.heap.size:=lt_of_block h
theorem qrxu.cell(h:qrxu W b p)(j:Nat):W.cell? ⟨b,j,none⟩=(#[.int .i64 p.id,.int .u32 p.n,.string (bs p.text),.string (bs p.value)]:Array Value)[j]? := cell_of_row W b j _ _ (0,0) h
theorem qrxu.c0(h:qrxu W b p):W.cell? ⟨b,0,none⟩=some (.int .i64 p.id):=h.cell 0
theorem qrxu.c1(h:qrxu W b p):W.cell? ⟨b,1,none⟩=some (.int .u32 p.n):=h.cell 1
theorem qrxu.c2(h:qrxu W b p):W.cell? ⟨b,2,none⟩=some (.string (bs p.text)):=h.cell 2
theorem qrxu.c3(h:qrxu W b p):W.cell? ⟨b,3,none⟩=some (.string (bs p.value)):=h.cell 3
theorem qrxu.of_block(h:qrxu W b p)(hb:W'.heap[b]?=W.heap[b]?):qrxu W' b p:=hb.trans h
theorem qrxu.below(h:qrxu W b p){B:Nat}(hb:Below B W W')(hB:b<B):qrxu W' b p:=h.of_block (hb.block b hB)
theorem qrxu.made(W:World)(p:Pr):qrxu (W.alloc (.cells #[.int .i64 p.id,.int .u32 p.n,.string (bs p.text),.string (bs p.value)] 82)) W.heap.size p:=heap_alloc_new W _
end
def PL(W:World)(A:Option Addr)(l:List Pr):Prop:=
 l≠[]->∃g i,A=some ⟨g,i,none⟩/\g<W.heap.size/\∀j p,l[j]?=some p->
  W.cell? ⟨g,i+j*4,none⟩=some (.int .i64 p.id)/\W.cell? ⟨g,i+j*4+1,none⟩=some (.int .u32 p.n)/\W.cell? ⟨g,i+j*4+2,none⟩=some (.string (bs p.text))/\W.cell? ⟨g,i+j*4+3,none⟩=some (.string (bs p.value))
theorem PL.nil{W:World}{A:Option Addr}:PL W A []:=fun h=>absurd rfl h
theorem PL.kept{W W':World}{A:Option Addr}{l:List Pr}(h:PL W A l)(hs:W.heap.size<=W'.heap.size)(hb:∀g i,A=some ⟨g,i,none⟩->g<W.heap.size->W'.heap[g]?=W.heap[g]?):PL W' A l:=fun hne=>by obtain⟨g,i,e,hg,hc⟩:=h hne;have he:=hb g i e hg;refine⟨g,i,e,Nat.lt_of_lt_of_le hg hs,fun j p hj=>?_⟩;obtain⟨h0,h1,h2,h3⟩:=hc j p hj;exact⟨(World.cell?_of_block (a:=⟨g,i+j*4,none⟩) he).trans h0,(World.cell?_of_block (a:=⟨g,i+j*4+1,none⟩) he).trans h1,(World.cell?_of_block (a:=⟨g,i+j*4+2,none⟩) he).trans h2,(World.cell?_of_block (a:=⟨g,i+j*4+3,none⟩) he).trans h3⟩
theorem PL.below{W W':World}{A:Option Addr}{l:List Pr}(h:PL W A l)(hb:Below W.heap.size W W'):PL W' A l:=h.kept hb.size fun g _ _ hg=>hb.block g hg
theorem PL.grown{W W':World}{A:Option Addr}{l:List Pr}{b:Nat}(h:PL W A l)(hb:W.grownBy W' (some b))(hne:∀g i,A=some ⟨g,i,none⟩->g≠b):PL W' A l:=h.kept hb.size fun g i e hg=>hb.block g hg (fun x=>hne g i e (Option.some.inj x))
theorem PL.at{W:World}{A:Option Addr}{l:List Pr}(h:PL W A l){j:Nat}{p:Pr}(hj:l[j]?=some p):∃g i,A=some ⟨g,i,none⟩/\g<W.heap.size/\
 W.cell? ⟨g,i+j*4,none⟩=some (.int .i64 p.id)/\W.cell? ⟨g,i+j*4+1,none⟩=some (.int .u32 p.n)/\W.cell? ⟨g,i+j*4+2,none⟩=some (.string (bs p.text))/\W.cell? ⟨g,i+j*4+3,none⟩=some (.string (bs p.value)):=by
 obtain⟨g,i,e,hg,hc⟩:=h (by rintro rfl;simp at hj);exact⟨g,i,e,hg,hc j p hj⟩
theorem PL.addr{W:World}{A:Option Addr}{l:List Pr}(h:PL W A l)(hne:l≠[]):∃g i,A=some ⟨g,i,none⟩/\g<W.heap.size:=by obtain⟨g,i,e,hg,_⟩:=h hne;exact⟨g,i,e,hg⟩
def pc(p:Pr):List Value:=[.int .i64 p.id,.int .u32 p.n,.string (bs p.text),.string (bs p.value)]
def pcs(l:List Pr):List Value:=l.flatMap pc
theorem qrcu(p:Pr)(l:List Pr):pcs (p::l)=pc p++pcs l:=rfl
theorem qdoo(a b:List Pr):pcs (a++b)=pcs a++pcs b:=by simp[pcs]
theorem qv9d:∀(l:List Pr),(pcs l).length=l.length*4
 |[]=>rfl
 |p::l=>by rw[qrcu,List.length_append,qv9d l,List.length_cons];show 4+_=_;omega
theorem qsrc:∀(l:List Pr) (j c:Nat) (p:Pr),l[j]?=some p->c<4->(pcs l)[j*4+c]?=(pc p)[c]?
 |[],j,c,p,h,_=>by simp at h
 |q::l,0,c,p,h,hc=>by
  simp at h;subst h;rw[qrcu,List.getElem?_append_left (by show _<4;omega)]
  congr 1;omega
 |q::l,j+1,c,p,h,hc=>by
  rw[qrcu,List.getElem?_append_right (by show 4<=_;omega)]
  have:(j+1)*4+c-(pc q).length=j*4+c:=by show _-4=_;omega
  rw[this];exact qsrc l j c p (by simpa using h) hc
theorem qtvz(l:List Pr):∀u∈pcs l,u.oneCell'=true:=fun u hu=>by unfold pcs at hu;obtain⟨p,_,hp⟩:=List.mem_flatMap.1 hu;unfold pc at hp;simp at hp;rcases hp with rfl|rfl|rfl|rfl<;>rfl
theorem PL.of_cells{W:World}{g:Nat}{cs:Array Value}{t:TypeId}{l:List Pr}(hg:W.heap[g]?=some (.cells cs t (0,0)))(h:∀(j:Nat) (u:Value),(pcs l)[j]?=some u->cs[j]?=some u):PL W (some ⟨g,0,none⟩) l:=fun _=>by
 refine⟨g,0,rfl,lt_of_block hg,fun j p hj=>?_⟩;have hc:∀c,c<4->W.cell? ⟨g,0+j*4+c,none⟩=(pc p)[c]? := fun c hc=>by rw[cell_of_row W g _ cs _ _ hg];have h1:=qsrc l j c p hj hc;have h2:(pc p)[c]?=some ((pc p)[c]'hc):=List.getElem?_eq_getElem hc;rw[h2] at h1 ⊢;rw[Nat.zero_add];exact h _ _ h1
 exact⟨hc 0 (by decide),hc 1 (by decide),hc 2 (by decide),hc 3 (by decide)⟩
theorem PL.made(W:World)(l:List Pr)(cs:Array Value)(t:TypeId)(h:cs=(pcs l).toArray):PL (W.alloc (.cells cs t)) (some ⟨W.heap.size,0,none⟩) l:=
 PL.of_cells (heap_alloc_new W _) (fun j u hu=>by rw[h];simpa using hu)
theorem PL.owned{W:World}{base n:Nat}{v:Value}{l:List Pr}{t:TypeId}(h:W.ownsRow base t 4 v n (pcs l))(hn:n=l.length) :
 ∃A c,v=.slice A n c/\n<=c/\PL W A l/\∀g i,A=some ⟨g,i,none⟩->base<=g:=by
 rcases h.2 with ⟨rfl,h0⟩|⟨g,cap,cur,rfl,hb,hg,hc,_,_,hcur⟩
 ·subst h0
  have:l=[]:=List.length_eq_zero_iff.1 hn.symm
  subst this;exact⟨none,0,rfl,Nat.le_refl _,PL.nil,fun g i e=>by cases e⟩
 ·refine⟨_,cap,rfl,hc,PL.of_cells hg (fun j u hu=>?_),fun g' i e=>by cases e;exact hb⟩;rw[<-hcur] at hu;have hj:j<n*4:=by
   have:=(List.getElem?_eq_some_iff.1 hu).1
   rw[List.length_take] at this;omega
  rw[List.getElem?_take_of_lt hj] at hu;simpa using hu
theorem PL.drop{W:World}{g i:Nat}{l:List Pr}(h:PL W (some ⟨g,i,none⟩) l)(k:Nat):PL W (some ⟨g,i+k*4,none⟩) (l.drop k):=fun hne=>by
 have hne2:l≠[]:=by rintro rfl;simp at hne
 obtain⟨g',i',e,hg,hc⟩:=h hne2;cases e;refine⟨_,_,rfl,hg,fun j p hj=>?_⟩;rw[List.getElem?_drop] at hj
 have:=hc (k+j) p hj
 rw[show i+(k+j)*4=i+k*4+j*4 by omega] at this;exact this
theorem PL.take{W:World}{A:Option Addr}{l:List Pr}(h:PL W A l)(k:Nat):PL W A (l.take k):=fun hne=>by
 have hne2:l≠[]:=by rintro rfl;simp at hne
 obtain⟨g,i,e,hg,hc⟩:=h hne2;refine⟨g,i,e,hg,fun j p hj=>?_⟩;rw[List.getElem?_take] at hj;split at hj
 ·exact hc j p hj
 ·cases hj
end Go.Proofs.YtefmhbioggcfaaaGreatDoor
