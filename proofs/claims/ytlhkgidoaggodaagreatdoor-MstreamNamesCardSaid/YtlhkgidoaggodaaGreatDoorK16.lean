/- The contracts of head.same and of slices.EqualFunc with it. Condition: at most 70,000 elements. -/
import Derived.Test.YtlhkgidoaggodaaGreatDoorK15
set_option maxRecDepth 100000
set_option maxHeartbeats 2000000
namespace Go.Proofs.YtlhkgidoaggodaaGreatDoor
open Lib(hid)
open Proofs.Tryz
open Go.RowKit
theorem qbkq(p q:Pr)(w:World) :
 Calls prog 182 #[qbhk p,qbhk q] w fun e w'=>e=.returned (.bool (decide (p=q)))/\Below w.heap.size w w':=by
 have HB:=hid (fun o o'=>qxh2 (qybm (w:=w) o) (qybm o'));unfold qbhk;obtain⟨D,hD⟩:∃D,decide (p=q)=D:=⟨_,rfl⟩
 rw[hD];have hno:p≠q->D=false:=fun h=>by rw[<-hD];exact decide_eq_false h
 have HNO:=hid hno;have HD:=hid hD;clear hno hD;rcases qzlf p q with h|h|⟨h1,h2⟩|⟨h1,h2,h3⟩|⟨h1,h2,h3,h4⟩
 ·have hD:D=true:=by rw[<-HD.out];exact decide_eq_true h
  subst h hD;clear HD HNO;generalize p.id=x0;generalize ((p.n:Nat):Int)=x1;generalize bs p.text=x2;generalize bs p.value=x3;go_in;go_wp2;go_ret;exact⟨rfl,HB.out _ _⟩
 ·have hD:=HNO.out (fun e=>by rw[e] at h;simp at h);clear HD HNO;subst hD;generalize p.id=x0 at *;generalize ((p.n:Nat):Int)=x1 at *;generalize bs p.text=x2 at *;generalize bs p.value=x3 at *;generalize q.id=y0 at *;generalize ((q.n:Nat):Int)=y1 at *;generalize bs q.text=y2 at *;generalize bs q.value=y3 at *;go_in;go_wp2;go_ret;exact⟨rfl,HB.out _ _⟩
 ·have hD:=HNO.out (fun e=>by rw[e] at h2;simp at h2);clear HD HNO;subst hD;rw[h1];clear h1;generalize p.id=x0 at *;generalize ((p.n:Nat):Int)=x1 at *;generalize bs p.text=x2 at *;generalize bs p.value=x3 at *;generalize q.id=y0 at *;generalize ((q.n:Nat):Int)=y1 at *;generalize bs q.text=y2 at *;generalize bs q.value=y3 at *;go_in;go_wp2;go_ret;exact⟨rfl,HB.out _ _⟩
 ·have hD:=HNO.out (fun e=>by rw[e] at h3;simp at h3);clear HD HNO;subst hD;rw[h1];rw[h2];clear h1 h2;generalize p.id=x0 at *;generalize ((p.n:Nat):Int)=x1 at *;generalize bs p.text=x2 at *;generalize bs p.value=x3 at *;generalize q.id=y0 at *;generalize ((q.n:Nat):Int)=y1 at *;generalize bs q.text=y2 at *;generalize bs q.value=y3 at *;go_in;go_wp2;go_ret;exact⟨rfl,HB.out _ _⟩
 ·have hD:=HNO.out (fun e=>by rw[e] at h4;simp at h4);clear HD HNO;subst hD;rw[h1];rw[h2];rw[h3];clear h1 h2 h3;generalize p.id=x0 at *;generalize ((p.n:Nat):Int)=x1 at *;generalize bs p.text=x2 at *;generalize bs p.value=x3 at *;generalize q.id=y0 at *;generalize ((q.n:Nat):Int)=y1 at *;generalize bs q.text=y2 at *;generalize bs q.value=y3 at *;go_in;go_wp2;go_ret;exact⟨rfl,HB.out _ _⟩
theorem qqwl(p q:Fi)(w:World) :
 Calls prog 180 #[fiV p,fiV q] w fun e w'=>e=.returned (.bool (decide (p=q)))/\Below w.heap.size w w':=by
 have HB:=hid (fun o o'=>qxh2 (qybm (w:=w) o) (qybm o'));unfold fiV;obtain⟨D,hD⟩:∃D,decide (p=q)=D:=⟨_,rfl⟩
 rw[hD];have hno:p≠q->D=false:=fun h=>by rw[<-hD];exact decide_eq_false h
 have HNO:=hid hno;have HD:=hid hD;clear hno hD;rcases qpuj p q with h|h|⟨h1,h2⟩|⟨h1,h2,h3⟩|⟨h1,h2,h3,h4⟩|⟨h1,h2,h3,h4,h5⟩
 ·have hD:D=true:=by rw[<-HD.out];exact decide_eq_true h
  subst h hD;clear HD HNO;generalize bs p.topic=x0;generalize p.qos=x1;generalize p.noLocal=x2;generalize p.asPub=x3;generalize p.handling=x4;go_in;go_wp2;go_ret;exact⟨rfl,HB.out _ _⟩
 ·have hD:=HNO.out (fun e=>by rw[e] at h;simp at h);clear HD HNO;subst hD;generalize bs p.topic=x0 at *;generalize p.qos=x1 at *;generalize p.noLocal=x2 at *;generalize p.asPub=x3 at *;generalize p.handling=x4 at *;generalize bs q.topic=y0 at *;generalize q.qos=y1 at *;generalize q.noLocal=y2 at *;generalize q.asPub=y3 at *;generalize q.handling=y4 at *;go_in;go_wp2;go_ret;exact⟨rfl,HB.out _ _⟩
 ·have hD:=HNO.out (fun e=>by rw[e] at h2;simp at h2);clear HD HNO;subst hD;rw[h1];clear h1;generalize bs p.topic=x0 at *;generalize p.qos=x1 at *;generalize p.noLocal=x2 at *;generalize p.asPub=x3 at *;generalize p.handling=x4 at *;generalize bs q.topic=y0 at *;generalize q.qos=y1 at *;generalize q.noLocal=y2 at *;generalize q.asPub=y3 at *;generalize q.handling=y4 at *;go_in;go_wp2;go_ret;exact⟨rfl,HB.out _ _⟩
 ·have hD:=HNO.out (fun e=>by rw[e] at h3;simp at h3);clear HD HNO;subst hD;rw[h1];rw[h2];clear h1 h2;generalize bs p.topic=x0 at *;generalize p.qos=x1 at *;generalize p.noLocal=x2 at *;generalize p.asPub=x3 at *;generalize p.handling=x4 at *;generalize bs q.topic=y0 at *;generalize q.qos=y1 at *;generalize q.noLocal=y2 at *;generalize q.asPub=y3 at *;generalize q.handling=y4 at *;go_in;go_wp2;go_ret;exact⟨rfl,HB.out _ _⟩
 ·have hD:=HNO.out (fun e=>by rw[e] at h4;simp at h4);clear HD HNO;subst hD;rw[h1];rw[h2];rw[h3];clear h1 h2 h3;generalize bs p.topic=x0 at *;generalize p.qos=x1 at *;generalize p.noLocal=x2 at *;generalize p.asPub=x3 at *;generalize p.handling=x4 at *;generalize bs q.topic=y0 at *;generalize q.qos=y1 at *;generalize q.noLocal=y2 at *;generalize q.asPub=y3 at *;generalize q.handling=y4 at *;go_in;go_wp2;go_ret;exact⟨rfl,HB.out _ _⟩
 ·have hD:=HNO.out (fun e=>by rw[e] at h5;simp at h5);clear HD HNO;subst hD;rw[h1];rw[h2];rw[h3];rw[h4];clear h1 h2 h3 h4;generalize bs p.topic=x0 at *;generalize p.qos=x1 at *;generalize p.noLocal=x2 at *;generalize p.asPub=x3 at *;generalize p.handling=x4 at *;generalize bs q.topic=y0 at *;generalize q.qos=y1 at *;generalize q.noLocal=y2 at *;generalize q.asPub=y3 at *;generalize q.handling=y4 at *;go_in;go_wp2;go_ret;exact⟨rfl,HB.out _ _⟩
theorem q588(p q:Int)(w:World) :
 Calls prog 178 #[.int .i64 p,.int .i64 q] w fun e w'=>e=.returned (.bool (decide (p=q)))/\Below w.heap.size w w':=by
 have HR:=hid (Below.refl w.heap.size w);have e:(p==q)=decide (p=q):=by rw[Bool.eq_iff_iff];simp
 rw[<-e];clear e;go_in;go_wp2;go_ret;exact⟨rfl,HR.out⟩
theorem qk57(A B:Option Addr)(na nb c d:Nat)(l m:List Pr)(w:World)(hA:PL w A l)(hB:PL w B m)(hla:l.length=na)(hlb:m.length=nb)(hN:na<=70000)(hM:nb<=70000) :
 Calls prog 181 #[.slice A na c,.slice B nb d,.func (.func 182) #[] #[]] w fun e w'=>e=.returned (.bool (decide (l=m)))/\Below w.heap.size w w':=by
 by_cases hn:na=nb
 ·subst hn;obtain⟨D,hD⟩:∃D,decide (l=m)=D:=⟨_,rfl⟩
  rw[hD];have HD:=hid hD;have HA:=hid hA;have HB:=hid hB;have HLA:=hid hla;have HLB:=hid hlb;have B0:=hid (Below.refl w.heap.size w);have q0:(na:Int)<=70000:=by omega
  clear hA hB hla hlb hN hM hD;go_in;go_wp2_with fail
  go_loopg [17] na (fun gk i wr=>∃k:Nat,k<=na/\gk=na-k/\i=.int .i64 (k:Int)/\Below w.heap.size w wr/\∀j p q,j<k->l[j]?=some p->m[j]?=some q->p=q)
  case atStart=>exact⟨0,Nat.zero_le _,rfl,rfl,B0.out,fun j p q h=>by omega⟩
  case round=>
   obtain⟨k,hk,rfl,rfl,hb,hS⟩:=hrel;have HS:=hid hS;have B1:=hid hb;by_cases hlt:k<na
   ·have hkl:k<l.length:=by rw[HLA.out];exact hlt
    have hkm:k<m.length:=by rw[HLB.out];exact hlt
    obtain⟨p,hp⟩:∃p,l[k]?=some p:=⟨_,List.getElem?_eq_getElem hkl⟩
    obtain⟨q,hq⟩:∃q,m[k]?=some q:=⟨_,List.getElem?_eq_getElem hkm⟩
    have HA2:=hid (HA.out.below hb);have HB2:=hid (HB.out.below hb);obtain⟨ga,ia,rfl,la,a0,a1,a2,a3⟩:=HA2.out.at hp;obtain⟨gb,ib,rfl,lb,b0,b1,b2,b3⟩:=HB2.out.at hq;have HP:=hid hp;have HQ:=hid hq;have HL:=hid hlt;have g1:(k:Int)<(na:Int):=by omega
    have g2:=hb.size;have hyes:p=q\/D=false:=by
     by_cases h:p=q
     ·exact .inl h
     ·refine .inr ?_;rw[<-HD.out];exact decide_eq_false fun e=>h (by subst e;exact Option.some.inj (HP.out.symm.trans HQ.out))
    have HY:=hid hyes;have SM:=hid (qbkq p q);obtain⟨E,hE⟩:∃E,decide (p=q)=E:=⟨_,rfl⟩
    rw[hE] at SM;have HE:=hid hE;clear hS hkl hkm hp hq hlt hk hyes hb hE;unfold qbhk at SM;go_wp2_with fail;refine(SM.out _).mono ?_;rintro e w3 ⟨rfl,hb⟩;have B2:=hid (qxh2 (qxh2 (qxh2 B1.out (qybm _)) (qybm _)) hb);clear hb;cases E with
    |true=>
     go_wp2_with fail
     go_roundg (na-(k+1))
     case measure=>have:=HL.out;omega
     case rel=>
      have hpq:p=q:=of_decide_eq_true HE.out;refine⟨k+1,by have:=HL.out;omega,rfl,by go_num,B2.out,fun j u v hj hu hv=>?_⟩;by_cases hjk:j=k
      ·subst hjk;exact((Option.some.inj (hu.symm.trans HP.out)).trans hpq).trans (Option.some.inj (HQ.out.symm.trans hv))
      ·exact HS.out j u v (by omega) hu hv
    |false=>have hD:D=false:=(HY.out).resolve_left (of_decide_eq_false HE.out);subst hD;go_wp2;go_ret;exact⟨rfl,B2.out⟩
   ·obtain rfl:k=na:=by omega
    have hD:D=true:=by rw[<-HD.out];exact decide_eq_true (qs8g HLA.out HLB.out hS)
    subst hD;clear hS hlt hk hb;go_wp2;go_ret;exact⟨rfl,B1.out⟩
 ·have hD:decide (l=m)=false:=decide_eq_false fun e=>hn (by rw[<-hla,<-hlb,e]);have q0:((na:Int) != (nb:Int))=true:=by rw[bne_iff_ne];omega
  have B0:=hid (Below.refl w.heap.size w);rw[hD];clear hA hB hla hlb hN hM hD hn;go_in;go_wp2;go_ret;exact⟨rfl,B0.out⟩
theorem qm9z(A B:Option Addr)(na nb c d:Nat)(l m:List Fi)(w:World)(hA:CL w A (fcs l))(hB:CL w B (fcs m))(hla:l.length=na)(hlb:m.length=nb)(hN:na<=70000)(hM:nb<=70000) :
 Calls prog 179 #[.slice A na c,.slice B nb d,.func (.func 180) #[] #[]] w fun e w'=>e=.returned (.bool (decide (l=m)))/\Below w.heap.size w w':=by
 by_cases hn:na=nb
 ·subst hn;obtain⟨D,hD⟩:∃D,decide (l=m)=D:=⟨_,rfl⟩
  rw[hD];have HD:=hid hD;have HA:=hid hA;have HB:=hid hB;have HLA:=hid hla;have HLB:=hid hlb;have B0:=hid (Below.refl w.heap.size w);have q0:(na:Int)<=70000:=by omega
  clear hA hB hla hlb hN hM hD;go_in;go_wp2_with fail
  go_loopg [17] na (fun gk i wr=>∃k:Nat,k<=na/\gk=na-k/\i=.int .i64 (k:Int)/\Below w.heap.size w wr/\∀j p q,j<k->l[j]?=some p->m[j]?=some q->p=q)
  case atStart=>exact⟨0,Nat.zero_le _,rfl,rfl,B0.out,fun j p q h=>by omega⟩
  case round=>
   obtain⟨k,hk,rfl,rfl,hb,hS⟩:=hrel;have HS:=hid hS;have B1:=hid hb;by_cases hlt:k<na
   ·have hkl:k<l.length:=by rw[HLA.out];exact hlt
    have hkm:k<m.length:=by rw[HLB.out];exact hlt
    obtain⟨p,hp⟩:∃p,l[k]?=some p:=⟨_,List.getElem?_eq_getElem hkl⟩
    obtain⟨q,hq⟩:∃q,m[k]?=some q:=⟨_,List.getElem?_eq_getElem hkm⟩
    have HA2:=hid (HA.out.below hb);have HB2:=hid (HB.out.below hb);obtain⟨ga,ia,rfl,la,a0,a1,a2,a3,a4⟩:=HA2.out.fi hp;obtain⟨gb,ib,rfl,lb,b0,b1,b2,b3,b4⟩:=HB2.out.fi hq;have HP:=hid hp;have HQ:=hid hq;have HL:=hid hlt;have g1:(k:Int)<(na:Int):=by omega
    have g2:=hb.size;have hyes:p=q\/D=false:=by
     by_cases h:p=q
     ·exact .inl h
     ·refine .inr ?_;rw[<-HD.out];exact decide_eq_false fun e=>h (by subst e;exact Option.some.inj (HP.out.symm.trans HQ.out))
    have HY:=hid hyes;have SM:=hid (qqwl p q);obtain⟨E,hE⟩:∃E,decide (p=q)=E:=⟨_,rfl⟩
    rw[hE] at SM;have HE:=hid hE;clear hS hkl hkm hp hq hlt hk hyes hb hE;unfold fiV at SM;go_wp2_with fail;refine(SM.out _).mono ?_;rintro e w3 ⟨rfl,hb⟩;have B2:=hid (qxh2 (qxh2 (qxh2 B1.out (qybm _)) (qybm _)) hb);clear hb;cases E with
    |true=>
     go_wp2_with fail
     go_roundg (na-(k+1))
     case measure=>have:=HL.out;omega
     case rel=>
      have hpq:p=q:=of_decide_eq_true HE.out;refine⟨k+1,by have:=HL.out;omega,rfl,by go_num,B2.out,fun j u v hj hu hv=>?_⟩;by_cases hjk:j=k
      ·subst hjk;exact((Option.some.inj (hu.symm.trans HP.out)).trans hpq).trans (Option.some.inj (HQ.out.symm.trans hv))
      ·exact HS.out j u v (by omega) hu hv
    |false=>have hD:D=false:=(HY.out).resolve_left (of_decide_eq_false HE.out);subst hD;go_wp2;go_ret;exact⟨rfl,B2.out⟩
   ·obtain rfl:k=na:=by omega
    have hD:D=true:=by rw[<-HD.out];exact decide_eq_true (qs8g HLA.out HLB.out hS)
    subst hD;clear hS hlt hk hb;go_wp2;go_ret;exact⟨rfl,B1.out⟩
 ·have hD:decide (l=m)=false:=decide_eq_false fun e=>hn (by rw[<-hla,<-hlb,e]);have q0:((na:Int) != (nb:Int))=true:=by rw[bne_iff_ne];omega
  have B0:=hid (Below.refl w.heap.size w);rw[hD];clear hA hB hla hlb hN hM hD hn;go_in;go_wp2;go_ret;exact⟨rfl,B0.out⟩
theorem q5se(A B:Option Addr)(na nb c d:Nat)(l m:List Int)(w:World)(hA:CL w A (ics l))(hB:CL w B (ics m))(hla:l.length=na)(hlb:m.length=nb)(hN:na<=70000)(hM:nb<=70000) :
 Calls prog 177 #[.slice A na c,.slice B nb d,.func (.func 178) #[] #[]] w fun e w'=>e=.returned (.bool (decide (l=m)))/\Below w.heap.size w w':=by
 by_cases hn:na=nb
 ·subst hn;obtain⟨D,hD⟩:∃D,decide (l=m)=D:=⟨_,rfl⟩
  rw[hD];have HD:=hid hD;have HA:=hid hA;have HB:=hid hB;have HLA:=hid hla;have HLB:=hid hlb;have B0:=hid (Below.refl w.heap.size w);have q0:(na:Int)<=70000:=by omega
  clear hA hB hla hlb hN hM hD;go_in;go_wp2_with fail
  go_loopg [17] na (fun gk i wr=>∃k:Nat,k<=na/\gk=na-k/\i=.int .i64 (k:Int)/\Below w.heap.size w wr/\∀j p q,j<k->l[j]?=some p->m[j]?=some q->p=q)
  case atStart=>exact⟨0,Nat.zero_le _,rfl,rfl,B0.out,fun j p q h=>by omega⟩
  case round=>
   obtain⟨k,hk,rfl,rfl,hb,hS⟩:=hrel;have HS:=hid hS;have B1:=hid hb;by_cases hlt:k<na
   ·have hkl:k<l.length:=by rw[HLA.out];exact hlt
    have hkm:k<m.length:=by rw[HLB.out];exact hlt
    obtain⟨p,hp⟩:∃p,l[k]?=some p:=⟨_,List.getElem?_eq_getElem hkl⟩
    obtain⟨q,hq⟩:∃q,m[k]?=some q:=⟨_,List.getElem?_eq_getElem hkm⟩
    have HA2:=hid (HA.out.below hb);have HB2:=hid (HB.out.below hb);obtain⟨ga,ia,rfl,la,a0⟩:=HA2.out.int hp;obtain⟨gb,ib,rfl,lb,b0⟩:=HB2.out.int hq;have HP:=hid hp;have HQ:=hid hq;have HL:=hid hlt;have g1:(k:Int)<(na:Int):=by omega
    have g2:=hb.size;have hyes:p=q\/D=false:=by
     by_cases h:p=q
     ·exact .inl h
     ·refine .inr ?_;rw[<-HD.out];exact decide_eq_false fun e=>h (by subst e;exact Option.some.inj (HP.out.symm.trans HQ.out))
    have HY:=hid hyes;have SM:=hid (q588 p q);obtain⟨E,hE⟩:∃E,decide (p=q)=E:=⟨_,rfl⟩
    rw[hE] at SM;have HE:=hid hE;clear hS hkl hkm hp hq hlt hk hyes hb hE;go_wp2_with fail;refine(SM.out _).mono ?_;rintro e w3 ⟨rfl,hb⟩;have B2:=hid (qxh2 B1.out hb);clear hb;cases E with
    |true=>
     go_wp2_with fail
     go_roundg (na-(k+1))
     case measure=>have:=HL.out;omega
     case rel=>
      have hpq:p=q:=of_decide_eq_true HE.out;refine⟨k+1,by have:=HL.out;omega,rfl,by go_num,B2.out,fun j u v hj hu hv=>?_⟩;by_cases hjk:j=k
      ·subst hjk;exact((Option.some.inj (hu.symm.trans HP.out)).trans hpq).trans (Option.some.inj (HQ.out.symm.trans hv))
      ·exact HS.out j u v (by omega) hu hv
    |false=>have hD:D=false:=(HY.out).resolve_left (of_decide_eq_false HE.out);subst hD;go_wp2;go_ret;exact⟨rfl,B2.out⟩
   ·obtain rfl:k=na:=by omega
    have hD:D=true:=by rw[<-HD.out];exact decide_eq_true (qs8g HLA.out HLB.out hS)
    subst hD;clear hS hlt hk hb;go_wp2;go_ret;exact⟨rfl,B1.out⟩
 ·have hD:decide (l=m)=false:=decide_eq_false fun e=>hn (by rw[<-hla,<-hlb,e]);have q0:((na:Int) != (nb:Int))=true:=by rw[bne_iff_ne];omega
  have B0:=hid (Below.refl w.heap.size w);rw[hD];clear hA hB hla hlb hN hM hD hn;go_in;go_wp2;go_ret;exact⟨rfl,B0.out⟩
theorem q564(v k:Int)(w:World) :
 Calls prog 90 #[.int .i64 v,.int .i64 k] w fun e w'=>e=.returned (.bool (versC v&&(k==1 || k==2)))/\w=w':=by
 unfold versC;have hv:v=4\/v=5\/((v==4)=false/\(v==5)=false):=by
  by_cases h4:v=4
  ·exact .inl h4
  by_cases h5:v=5
  ·exact .inr (.inl h5)
  exact .inr (.inr ⟨beq_eq_false_iff_ne.2 h4,beq_eq_false_iff_ne.2 h5⟩)
 have hk:k=1\/k=2\/((k==1)=false/\(k==2)=false):=by
  by_cases h4:k=1
  ·exact .inl h4
  by_cases h5:k=2
  ·exact .inr (.inl h5)
  exact .inr (.inr ⟨beq_eq_false_iff_ne.2 h4,beq_eq_false_iff_ne.2 h5⟩)
 rcases hv with rfl|rfl|⟨h4,h5⟩
 ·rcases hk with rfl|rfl|⟨k1,k2⟩
  all_goals go_in;go_wp2;go_ret;exact⟨by first|rfl|(rw[k1,k2];rfl),rfl⟩
 ·rcases hk with rfl|rfl|⟨k1,k2⟩
  all_goals go_in;go_wp2;go_ret;exact⟨by first|rfl|(rw[k1,k2];rfl),rfl⟩
 ·rw[h4,h5];go_in;go_wp2;go_ret;exact⟨rfl,rfl⟩
theorem qtz4(v c:Int)(w:World) :
 Calls prog 162 #[.int .i64 v,.int .i64 c] w fun e w'=>e=.returned (.bool (if v=4 then qfn3 c else mayR 2 c))/\Below w.heap.size w w':=by
 have R:=hid (qym3 c);have M:=hid (qeiz 2 c);by_cases h:v=4
 ·subst h;rw[if_pos rfl];go_in;go_wp2_with fail;refine(R.out _).mono ?_;rintro e w' ⟨rfl,rfl⟩;go_wp2;go_ret;exact⟨rfl,Below.refl _ _⟩
 ·rw[if_neg h];have h4:(v==4)=false:=beq_eq_false_iff_ne.2 h;go_in;go_wp2_with fail;refine(M.out _).mono ?_;rintro e w' ⟨rfl,hb⟩;go_wp2;go_ret;exact⟨rfl,hb⟩
def fitC(v:Int)(hw hp hu r:Bool)(q:Int):Bool:=decide (0<=q)&&decide (q<=2)&&(hw || (q==0&&!r))&&!(v==4&&hp&&!hu)
theorem qntu(v:Int){hw hp hu r:Bool}{q:Int}{c:Array Value}(w:World)(h10:c[10]?=some (.bool hu))(h12:c[12]?=some (.bool hp))(h14:c[14]?=some (.bool hw))(h17:c[17]?=some (.int .i64 q))(h18:c[18]?=some (.bool r)) :
 Calls prog 163 #[.int .i64 v,.agg c] w fun e w'=>e=.returned (.bool (fitC v hw hp hu r q))/\Below w.heap.size w w':=by
 have HB:=hid (fun o=>qybm (w:=w) o);unfold fitC;by_cases q0:q<0
 ·rw[decide_eq_false (show ¬0<=q by omega)];go_in;go_wp2;go_ret;exact⟨rfl,HB.out _⟩
 by_cases q2:2<q
 ·rw[decide_eq_true (show 0<=q by omega),decide_eq_false (show ¬q<=2 by omega)];go_in;go_wp2;go_ret;exact⟨rfl,HB.out _⟩
 rw[decide_eq_true (show 0<=q by omega),decide_eq_true (show q<=2 by omega)];have tail:∀(x:Bool),x=true->(v=4/\hp=true/\hu=true\/v=4/\hp=true/\hu=false\/v=4/\hp=false\/(v==4)=false):=fun _ _=>by
  by_cases h4:v=4
  ·cases hp<;>cases hu<;>simp[h4]
  ·exact .inr (.inr (.inr (beq_eq_false_iff_ne.2 h4)))
 have tail:=tail true rfl;cases hw with
 |true=>
  rcases tail with ⟨rfl,rfl,rfl⟩|⟨rfl,rfl,rfl⟩|⟨rfl,rfl⟩|h4
  all_goals go_in;go_wp2;go_ret;exact⟨by first|rfl|(rw[h4];rfl),HB.out _⟩
 |false=>
  by_cases hq:q=0
  ·subst hq;cases r with
   |true=>clear tail;go_in;go_wp2;go_ret;exact⟨rfl,HB.out _⟩
   |false=>
    rcases tail with ⟨rfl,rfl,rfl⟩|⟨rfl,rfl,rfl⟩|⟨rfl,rfl⟩|h4
    all_goals go_in;go_wp2;go_ret;exact⟨by first|rfl|(rw[h4];rfl),HB.out _⟩
  ·have hz:(q==0)=false:=beq_eq_false_iff_ne.2 hq;rw[hz];clear tail;go_in;go_wp2;go_ret;exact⟨rfl,HB.out _⟩
theorem qwk1:(prog.info? 36).map (·.size)=some 5:=by kernel_rfl
theorem qbtu(v:Int)(t y:ByteArray)(q:Int)(r:Bool)(A:Option Addr)(n c:Nat)(w:World) :
 Calls prog 207 #[.int .i64 v,.agg #[.string t,.string y,.int .i64 q,.bool r,.slice A n c]] w fun e w'=>e=.returned (.agg #[.string t,.string y,.int .i64 q,.bool r,.slice (if v=5 then A else none) (if v=5 then n else 0) (if v=5 then c else 0)])/\Below w.heap.size w w':=by
 by_cases h5:v=5
 ·subst h5;go_in;go_wp2_with fail;exact q7wi (cs:=#[.string t,.string y,.int .i64 q,.bool r,.slice A n c]) rfl rfl rfl underlying36 rfl qwk1 (heap_alloc2_new _ _ _) ⟨rfl,qxh2 (qybm _) (qybm _)⟩
 ·have h5':(v==5)=false:=beq_eq_false_iff_ne.2 h5;rw[if_neg h5,if_neg h5,if_neg h5];clear h5;go_in;go_wp2_with fail;exact q7wi (cs:=#[.string t,.string y,.int .i64 q,.bool r,.slice none 0 0]) rfl rfl rfl underlying36 rfl qwk1 (heap_alloc2_new _ _ _) ⟨rfl,qxh2 (qybm _) (qybm _)⟩
def us0(p:Pk):Pk:={Pk.zero with kind:=p.kind}
def us1(v:Int)(p:Pk):Pk:={Pk.zero with kind:=p.kind,props:=if v=5 then p.props else []}
def us1A(v:Int)(a:Ad):Ad:={adZ with ps:=if v=5 then a.ps else none,pc:=if v=5 then a.pc else 0}
def us2(v:Int)(p:Pk):Pk:={us1 v p with session:=p.session,code:=p.code}
def us3(v:Int)(p:Pk):Pk:={us1 v p with clean:=p.clean,keep:=p.keep,client:=p.client,hasWill:=p.hasWill,hasUser:=p.hasUser,hasPass:=p.hasPass}
def us4(v:Int)(p:Pk):Pk:={us3 v p with wTopic:=if p.hasWill then p.wTopic else [],wPayload:=if p.hasWill then p.wPayload else [],wQos:=if p.hasWill then p.wQos else 0,wRetain:=if p.hasWill then p.wRetain else false,wProps:=if p.hasWill then(if v=5 then p.wProps else []) else []}
def us4A(v:Int)(p:Pk)(a:Ad):Ad:={us1A v a with w:=if p.hasWill then(if v=5 then a.w else none) else none,wc:=if p.hasWill then(if v=5 then a.wc else 0) else 0}
def us5(v:Int)(p:Pk):Pk:={us4 v p with user:=if p.hasUser then p.user else []}
def us6(v:Int)(p:Pk):Pk:={us5 v p with pass:=if p.hasPass then p.pass else []}
def q8po(v:Int)(p:Pk):Pk:=if p.kind=2 then us2 v p else us6 v p
def qyxc(v:Int)(p:Pk)(a:Ad):Ad:=if p.kind=2 then us1A v a else us4A v p a
theorem qhin(v:Int)(p:Pk)(a:Ad)(w:World) :
 Calls prog 161 #[.int .i64 v,pkV p a] w fun e w'=>e=.returned (pkV (q8po v p) (qyxc v p a))/\Below w.heap.size w w':=by
 have Z0:((w.alloc (.cells (pkC p a) 40)).alloc (.cells pkZ 40)).heap.size=w.heap.size+1+1:=by simp
 have GN:(((w.alloc (.cells (pkC p a) 40)).alloc (.cells pkZ 40)).alloc (.cells pkZ 40)).heap[w.heap.size+1+1]?=some (.cells pkZ 40 (0,0)):=by
  have:=heap_alloc_new ((w.alloc (.cells (pkC p a) 40)).alloc (.cells pkZ 40)) (.cells pkZ 40)
  rw[Z0] at this;exact this
 have S0:UsS w p a (us0 p) adZ ((((w.alloc (.cells (pkC p a) 40)).alloc (.cells pkZ 40)).alloc (.cells pkZ 40)).setRow (w.heap.size+1+1) (pkC (us0 p) adZ)):=by
  refine⟨q8xz (qxh2 (qxh2 (qybm _) (qybm _)) (qybm _)) (by omega) _,?_,?_,setRow_heap _ _ _ _ _ _ GN⟩
  ·exact(setRow_other _ _ _ _ (by omega)).trans ((heap_alloc_old _ _ (by rw[Z0];omega)).trans (heap_alloc2_old _ _ _))
  ·exact(setRow_other _ _ _ _ (by omega)).trans ((heap_alloc_old _ _ (by rw[Z0];omega)).trans (heap_alloc2_new _ _ _))
 have hzv:=qrai;have hne:¬pkZ=#[]:=by intro h;have:=qbwp;rw[h] at this;cases this
 have HZ:=hid qbwp;have GN:=hid GN;have hD1:=qwmp (us0 p) adZ;have hD2:=qmz0 (us0 p) adZ;obtain⟨D,hD⟩:∃D,pkC (us0 p) adZ=D:=⟨_,rfl⟩
 rw[hD] at hD1 hD2 S0;have HD:=hid hD;have HD1:=hid hD1;have HD2:=hid hD2;have HS0:=hid S0;obtain⟨R,hR⟩:∃R,pkC (q8po v p) (qyxc v p a)=R:=⟨_,rfl⟩
 have HR:=hid hR;unfold pkV;rw[hR];clear hR;have K0:((w.alloc (.cells (pkC p a) 40)).alloc (.cells pkZ 40)).cell? ⟨w.heap.size,0,none⟩=some (.int .i64 p.kind):=cell_of_row _ _ 0 _ _ _ (heap_alloc2_old _ _ _);clear S0 hD hD1 hD2 Z0;go_in
 go_upto_if 10 with (first
  |(refine wpList_buildTo rfl 40 _ rfl (some 8) rfl D (by rw[<-HD.out];kernel_rfl) ?_)
  |(refine wpList_store_row rfl _ _ _ rfl (w.heap.size+1+1) D rfl rfl 40 _ GN.out (by rw[HD1.out];exact q5nr) (by rw[HZ.out,HD1.out]) HD2.out ?_))
 clear K0 GN HZ hne hzv;go_cut [] (fun wx=>UsS w p a (us1 v p) (us1A v a) wx)
 case first=>
  generalize (((w.alloc (.cells (pkC p a) 40)).alloc (.cells pkZ 40)).alloc (.cells pkZ 40)).setRow (w.heap.size+1+1) D=W at *;by_cases h5:v=5
  ·subst h5;have S1:=hid (HS0.out.put 24 (.slice a.ps p.props.length a.pc) (x':=us1 5 p) (b':=us1A 5 a) rfl);have k24:W.cell? ⟨w.heap.size,24,none⟩=some (.slice a.ps p.props.length a.pc):=HS0.out.cell 24;have n24:W.cell? ⟨w.heap.size+1+1,24,none⟩=some (.slice none 0 0):=HS0.out.ncell 24;have f24:=HS0.out.fr 24;clear HS0 GN;go_wp2_with fail
   go_meet
   exact S1.out
  ·have h5':(v==5)=false:=beq_eq_false_iff_ne.2 h5;have SB:=hid (show UsS w p a (us1 v p) (us1A v a) W by rw[us1,us1A,if_neg h5,if_neg h5,if_neg h5];exact HS0.out);clear HS0 h5 GN;go_wp2_with fail
   go_meet
   exact SB.out
 case rest=>
  have HS:=hid hcut;clear hcut HS0 GN;have k0:wc.cell? ⟨w.heap.size,0,none⟩=some (.int .i64 p.kind):=HS.out.cell 0;by_cases h2:p.kind=2
  ·rw[q8po,qyxc,if_pos h2,if_pos h2] at HR;rw[h2] at k0;clear h2;have k20:wc.cell? ⟨w.heap.size,20,none⟩=some (.bool p.session):=HS.out.cell 20;have k21:wc.cell? ⟨w.heap.size,21,none⟩=some (.int .i64 p.code):=HS.out.cell 21;have n20:wc.cell? ⟨w.heap.size+1+1,20,none⟩=some (.bool false):=HS.out.ncell 20;have f20:=HS.out.fr 20;have n21:wc.cell? ⟨w.heap.size+1+1,21,none⟩=some (.int .i64 0):=HS.out.ncell 21;have f21:=HS.out.fr 21;have S5:=hid ((HS.out.put 20 (.bool p.session) (x':={us1 v p with session:=p.session}) (b':=us1A v a) rfl).put 21 (.int .i64 p.code) (x':=us2 v p) (b':=us1A v a) rfl)
   go_upto_region 5 with fail
   go_cut [] (fun wx=>UsS w p a (us2 v p) (us1A v a) wx)
   case first=>
    go_region
    go_wp2_with fail
    go_meet
    exact S5.out.drew
   case rest=>
    have HS:=hid hcut;clear hcut k0 k20 k21 n20 n21 f20 f21 S5;have GB:=HS.out.new;rw[HR.out] at GB;have GB:=hid GB;have GR:=hid HS.out.res;have LO:=hid HS.out.low;have hR1:=qwmp (us2 v p) (us1A v a);have hR2:=qmz0 (us2 v p) (us1A v a);rw[HR.out] at hR1 hR2;have HR1:=hid hR1;have HR2:=hid hR2;clear hR1 hR2 HS;go_wp2_with (first
     |(refine wpList_load_row rfl _ _ rfl (w.heap.size+1+1) rfl 40 R (0,0) _ GB.out underlying40 rfl (by rw[HR1.out];exact q5nr) ?_)
     |(refine wpList_store_row rfl _ _ _ rfl (w.heap.size+1) R rfl rfl 40 _ GR.out (by rw[HR1.out];exact q5nr) (by rw[qbwp,HR1.out]) HR2.out ?_))
    exact q7wi (cs:=R) rfl rfl rfl underlying40 rfl (by rw[HR1.out];exact q5nr) (setRow_heap _ _ _ _ _ _ GR.out) ⟨rfl,q8xz LO.out (by omega) _⟩
  ·rw[q8po,qyxc,if_neg h2,if_neg h2] at HR;have h2':(p.kind==2)=false:=beq_eq_false_iff_ne.2 h2;clear h2;have k7:wc.cell? ⟨w.heap.size,7,none⟩=some (.bool p.clean):=HS.out.cell 7;have k8:wc.cell? ⟨w.heap.size,8,none⟩=some (.int .i64 p.keep):=HS.out.cell 8;have k9:wc.cell? ⟨w.heap.size,9,none⟩=some (.string (bs p.client)):=HS.out.cell 9;have n7:wc.cell? ⟨w.heap.size+1+1,7,none⟩=some (.bool false):=HS.out.ncell 7;have f7:=HS.out.fr 7;have n8:wc.cell? ⟨w.heap.size+1+1,8,none⟩=some (.int .i64 0):=HS.out.ncell 8;have f8:=HS.out.fr 8;have n9:wc.cell? ⟨w.heap.size+1+1,9,none⟩=some (.string ⟨#[]⟩):=HS.out.ncell 9;have f9:=HS.out.fr 9;have S7:=hid (((HS.out.put 7 (.bool p.clean) (x':={us1 v p with clean:=p.clean}) (b':=us1A v a) rfl).put 8 (.int .i64 p.keep) (x':={us1 v p with clean:=p.clean,keep:=p.keep}) (b':=us1A v a) rfl).put 9 (.string (bs p.client)) (x':={us1 v p with clean:=p.clean,keep:=p.keep,client:=p.client}) (b':=us1A v a) rfl)
   go_upto_region 7 with fail
   go_cut [] (fun wx=>UsS w p a {us1 v p with clean:=p.clean,keep:=p.keep,client:=p.client} (us1A v a) wx)
   case first=>
    go_region
    go_wp2_with fail
    go_meet
    exact S7.out.drew
   case rest=>
    clear k0 k7 k8 k9 n7 n8 n9 f7 f8 f9 S7 HS h2';rename_i wc';have HS:=hid hcut;clear hcut;have k14:wc.cell? ⟨w.heap.size,14,none⟩=some (.bool p.hasWill):=HS.out.cell 14;have k10:wc.cell? ⟨w.heap.size,10,none⟩=some (.bool p.hasUser):=HS.out.cell 10;have k12:wc.cell? ⟨w.heap.size,12,none⟩=some (.bool p.hasPass):=HS.out.cell 12;have n14:wc.cell? ⟨w.heap.size+1+1,14,none⟩=some (.bool false):=HS.out.ncell 14;have f14:=HS.out.fr 14;have n10:wc.cell? ⟨w.heap.size+1+1,10,none⟩=some (.bool false):=HS.out.ncell 10;have f10:=HS.out.fr 10;have n12:wc.cell? ⟨w.heap.size+1+1,12,none⟩=some (.bool false):=HS.out.ncell 12;have f12:=HS.out.fr 12;have S8:=hid (((HS.out.put 14 (.bool p.hasWill) (x':={us1 v p with clean:=p.clean,keep:=p.keep,client:=p.client,hasWill:=p.hasWill}) (b':=us1A v a) rfl).put 10 (.bool p.hasUser) (x':={us1 v p with clean:=p.clean,keep:=p.keep,client:=p.client,hasWill:=p.hasWill,hasUser:=p.hasUser}) (b':=us1A v a) rfl).put 12 (.bool p.hasPass) (x':=us3 v p) (b':=us1A v a) rfl)
    go_upto_region 8 with fail
    go_cut [] (fun wx=>UsS w p a (us3 v p) (us1A v a) wx)
    case first=>
     go_region
     go_wp2_with fail
     go_meet
     exact S8.out.drew
    case rest=>
     clear HS k14 k10 k12 n14 n10 n12 f14 f10 f12 S8;have HS:=hid hcut;clear hcut;have k14:wc.cell? ⟨w.heap.size,14,none⟩=some (.bool p.hasWill):=HS.out.cell 14
     go_upto_if 43 with fail
     go_cut [] (fun wx=>UsS w p a (us4 v p) (us4A v p a) wx)
     case first=>
      cases hw:p.hasWill with
      |false=>
       have S4:=hid (show UsS w p a (us4 v p) (us4A v p a) _ by unfold us4 us4A;rw[hw];exact HS.out);go_wp2_with fail
       go_meet
       exact S4.out
      |true=>
       have k15:wc.cell? ⟨w.heap.size,15,none⟩=some (.string (bs p.wTopic)):=HS.out.cell 15;have k16:wc.cell? ⟨w.heap.size,16,none⟩=some (.string (bs p.wPayload)):=HS.out.cell 16;have k17:wc.cell? ⟨w.heap.size,17,none⟩=some (.int .i64 p.wQos):=HS.out.cell 17;have k18:wc.cell? ⟨w.heap.size,18,none⟩=some (.bool p.wRetain):=HS.out.cell 18;have k19:wc.cell? ⟨w.heap.size,19,none⟩=some (.slice a.w p.wProps.length a.wc):=HS.out.cell 19;obtain⟨zA,hA⟩:∃z,(if v=5 then a.w else none)=z:=⟨_,rfl⟩
       obtain⟨zn,hn⟩:∃z,(if v=5 then p.wProps.length else 0)=z:=⟨_,rfl⟩
       obtain⟨zc,hc⟩:∃z,(if v=5 then a.wc else 0)=z:=⟨_,rfl⟩
       have CW:=qbtu v (bs p.wTopic) (bs p.wPayload) p.wQos p.wRetain a.w p.wProps.length a.wc;rw[hA,hn,hc] at CW;have CW:=hid CW;have he:(pkC {us3 v p with wTopic:=p.wTopic,wPayload:=p.wPayload,wQos:=p.wQos,wRetain:=p.wRetain} (us1A v a)).setIfInBounds 19 (.slice zA zn zc)=pkC {us3 v p with wTopic:=p.wTopic,wPayload:=p.wPayload,wQos:=p.wQos,wRetain:=p.wRetain,wProps:=if v=5 then p.wProps else []} {us1A v a with w:=if v=5 then a.w else none,wc:=if v=5 then a.wc else 0}:=by
        have hl:(if v=5 then p.wProps.length else 0)=(if v=5 then p.wProps else []).length:=by split<;>rfl
        subst hA hn hc;rw[hl]
        rfl
       have HE:=hid he;have h4:us4 v p={us3 v p with wTopic:=p.wTopic,wPayload:=p.wPayload,wQos:=p.wQos,wRetain:=p.wRetain,wProps:=if v=5 then p.wProps else []}:=by unfold us4;simp only[hw,if_true]
       have h4A:us4A v p a={us1A v a with w:=if v=5 then a.w else none,wc:=if v=5 then a.wc else 0}:=by unfold us4A;simp only[hw,if_true]
       have H4:=hid h4;have H4A:=hid h4A;clear hA hn hc he h4 h4A;go_wp2_with fail;refine(CW.out _).mono ?_;rintro e W2 ⟨rfl,hb⟩;have HS:=hid (HS.out.call hb);clear hb k15 k16 k17 k18 k19 k14;have n15:W2.cell? ⟨w.heap.size+1+1,15,none⟩=some (.string ⟨#[]⟩):=HS.out.ncell 15;have f15:=HS.out.fr 15;have n16:W2.cell? ⟨w.heap.size+1+1,16,none⟩=some (.string ⟨#[]⟩):=HS.out.ncell 16;have f16:=HS.out.fr 16;have n17:W2.cell? ⟨w.heap.size+1+1,17,none⟩=some (.int .i64 0):=HS.out.ncell 17;have f17:=HS.out.fr 17;have n18:W2.cell? ⟨w.heap.size+1+1,18,none⟩=some (.bool false):=HS.out.ncell 18;have f18:=HS.out.fr 18;have n19:W2.cell? ⟨w.heap.size+1+1,19,none⟩=some (.slice none 0 0):=HS.out.ncell 19;have f19:=HS.out.fr 19;have S4:=hid (((((HS.out.put 15 (.string (bs p.wTopic)) (x':={us3 v p with wTopic:=p.wTopic}) (b':=us1A v a) rfl).put 16 (.string (bs p.wPayload)) (x':={us3 v p with wTopic:=p.wTopic,wPayload:=p.wPayload}) (b':=us1A v a) rfl).put 17 (.int .i64 p.wQos) (x':={us3 v p with wTopic:=p.wTopic,wPayload:=p.wPayload,wQos:=p.wQos}) (b':=us1A v a) rfl).put 18 (.bool p.wRetain) (x':={us3 v p with wTopic:=p.wTopic,wPayload:=p.wPayload,wQos:=p.wQos,wRetain:=p.wRetain}) (b':=us1A v a) rfl).put 19 (.slice zA zn zc) (x':={us3 v p with wTopic:=p.wTopic,wPayload:=p.wPayload,wQos:=p.wQos,wRetain:=p.wRetain,wProps:=if v=5 then p.wProps else []}) (b':={us1A v a with w:=if v=5 then a.w else none,wc:=if v=5 then a.wc else 0}) HE.out);go_wp2_with fail
       go_meet
       rw[H4.out,H4A.out];exact S4.out
     case rest=>
      clear k14 HS;have HS:=hid hcut;clear hcut;have k10:wc.cell? ⟨w.heap.size,10,none⟩=some (.bool p.hasUser):=HS.out.cell 10
      go_upto_if 50 with fail
      go_cut [] (fun wx=>UsS w p a (us5 v p) (us4A v p a) wx)
      case first=>
       cases hw:p.hasUser with
       |false=>
        have S4:=hid (show UsS w p a (us5 v p) (us4A v p a) _ by unfold us5;rw[hw];exact HS.out);go_wp2_with fail
        go_meet
        exact S4.out
       |true=>
        have h5:us5 v p={us4 v p with user:=p.user}:=by unfold us5;simp only[hw,if_true]
        have H5:=hid h5;clear h5;have k11:wc.cell? ⟨w.heap.size,11,none⟩=some (.string (bs p.user)):=HS.out.cell 11;have n11:wc.cell? ⟨w.heap.size+1+1,11,none⟩=some (.string ⟨#[]⟩):=HS.out.ncell 11;have f11:=HS.out.fr 11;have S4:=hid (HS.out.put 11 (.string (bs p.user)) (x':={us4 v p with user:=p.user}) (b':=us4A v p a) rfl);go_wp2_with fail
        go_meet
        rw[H5.out];exact S4.out
      case rest=>
       clear k10 HS;have HS:=hid hcut;clear hcut;have k12:wc.cell? ⟨w.heap.size,12,none⟩=some (.bool p.hasPass):=HS.out.cell 12
       go_upto_if 55 with fail
       go_cut [] (fun wx=>UsS w p a (us6 v p) (us4A v p a) wx)
       case first=>
        cases hw:p.hasPass with
        |false=>
         have S4:=hid (show UsS w p a (us6 v p) (us4A v p a) _ by unfold us6;rw[hw];exact HS.out);go_wp2_with fail
         go_meet
         exact S4.out
        |true=>
         have h5:us6 v p={us5 v p with pass:=p.pass}:=by unfold us6;simp only[hw,if_true]
         have H5:=hid h5;clear h5;have k13:wc.cell? ⟨w.heap.size,13,none⟩=some (.string (bs p.pass)):=HS.out.cell 13;have n13:wc.cell? ⟨w.heap.size+1+1,13,none⟩=some (.string ⟨#[]⟩):=HS.out.ncell 13;have f13:=HS.out.fr 13;have S4:=hid (HS.out.put 13 (.string (bs p.pass)) (x':={us5 v p with pass:=p.pass}) (b':=us4A v p a) rfl);go_wp2_with fail
         go_meet
         rw[H5.out];exact S4.out
       case rest=>
        clear k12 HS;have HS:=hid hcut;clear hcut;have GB:=HS.out.new;rw[HR.out] at GB;have GB:=hid GB;have GR:=hid HS.out.res;have LO:=hid HS.out.low;have hR1:=qwmp (us6 v p) (us4A v p a);have hR2:=qmz0 (us6 v p) (us4A v p a);rw[HR.out] at hR1 hR2;have HR1:=hid hR1;have HR2:=hid hR2;clear hR1 hR2 HS;go_wp2_with (first
         |(refine wpList_load_row rfl _ _ rfl (w.heap.size+1+1) rfl 40 R (0,0) _ GB.out underlying40 rfl (by rw[HR1.out];exact q5nr) ?_)
         |(refine wpList_store_row rfl _ _ _ rfl (w.heap.size+1) R rfl rfl 40 _ GR.out (by rw[HR1.out];exact q5nr) (by rw[qbwp,HR1.out]) HR2.out ?_))
        exact q7wi (cs:=R) rfl rfl rfl underlying40 rfl (by rw[HR1.out];exact q5nr) (setRow_heap _ _ _ _ _ _ GR.out) ⟨rfl,q8xz LO.out (by omega) _⟩
end Go.Proofs.YtlhkgidoaggodaaGreatDoor
