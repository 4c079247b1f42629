/- The contracts of head.same and of slices.EqualFunc with it. Condition: at most 70,000 elements. -/
import Derived.Deep.LoopGhost
import Derived.Deep.QuietTactic
import Derived.Test.YtbklidpadffpgaaGreatK14
set_option maxRecDepth 100000
set_option maxHeartbeats 2000000
namespace Go.Proofs.YtbklidpadffpgaaGreat
open Go.RowKit
theorem qbkq(p q:Pr)(w:World) :
 Calls Tryz.prog 89 #[qbhk p,qbhk q] w fun e w'=>e = .returned (.bool (decide (p=q)))∧Below w.heap.size w w':=by
 have HB:=Lib.hid (fun o o'=>qxh2 (qybm (w:=w) o) (qybm o'))
 unfold qbhk
 obtain⟨D,hD⟩:∃D,decide (p=q)=D:=⟨_,rfl⟩
 rw[hD]
 have hno:p≠q→D=false:=fun h=>by rw[←hD];exact decide_eq_false h
 have HNO:=Lib.hid hno
 have HD:=Lib.hid hD
 clear hno hD
 rcases qzlf p q with h | h | ⟨h1,h2⟩ | ⟨h1,h2,h3⟩ | ⟨h1,h2,h3,h4⟩
 ·have hD:D=true:=by rw[←HD.out];exact decide_eq_true h
  subst h hD
  clear HD HNO
  generalize p.id=x0
  generalize ((p.n:Nat):Int)=x1
  generalize bs p.text=x2
  generalize bs p.value=x3
  go_enter Tryz.func89,Tryz.ntmps89
  go_wp2_with fail
  go_ret
  exact⟨rfl,HB.out _ _⟩
 ·have hD:=HNO.out (fun e=>by rw[e] at h;simp at h)
  clear HD HNO
  subst hD
  generalize p.id=x0 at *
  generalize ((p.n:Nat):Int)=x1 at *
  generalize bs p.text=x2 at *
  generalize bs p.value=x3 at *
  generalize q.id=y0 at *
  generalize ((q.n:Nat):Int)=y1 at *
  generalize bs q.text=y2 at *
  generalize bs q.value=y3 at *
  go_enter Tryz.func89,Tryz.ntmps89
  go_wp2_with fail
  go_ret
  exact⟨rfl,HB.out _ _⟩
 ·have hD:=HNO.out (fun e=>by rw[e] at h2;simp at h2)
  clear HD HNO
  subst hD
  rw[h1]
  clear h1
  generalize p.id=x0 at *
  generalize ((p.n:Nat):Int)=x1 at *
  generalize bs p.text=x2 at *
  generalize bs p.value=x3 at *
  generalize q.id=y0 at *
  generalize ((q.n:Nat):Int)=y1 at *
  generalize bs q.text=y2 at *
  generalize bs q.value=y3 at *
  go_enter Tryz.func89,Tryz.ntmps89
  go_wp2_with fail
  go_ret
  exact⟨rfl,HB.out _ _⟩
 ·have hD:=HNO.out (fun e=>by rw[e] at h3;simp at h3)
  clear HD HNO
  subst hD
  rw[h1]
  rw[h2]
  clear h1 h2
  generalize p.id=x0 at *
  generalize ((p.n:Nat):Int)=x1 at *
  generalize bs p.text=x2 at *
  generalize bs p.value=x3 at *
  generalize q.id=y0 at *
  generalize ((q.n:Nat):Int)=y1 at *
  generalize bs q.text=y2 at *
  generalize bs q.value=y3 at *
  go_enter Tryz.func89,Tryz.ntmps89
  go_wp2_with fail
  go_ret
  exact⟨rfl,HB.out _ _⟩
 ·have hD:=HNO.out (fun e=>by rw[e] at h4;simp at h4)
  clear HD HNO
  subst hD
  rw[h1]
  rw[h2]
  rw[h3]
  clear h1 h2 h3
  generalize p.id=x0 at *
  generalize ((p.n:Nat):Int)=x1 at *
  generalize bs p.text=x2 at *
  generalize bs p.value=x3 at *
  generalize q.id=y0 at *
  generalize ((q.n:Nat):Int)=y1 at *
  generalize bs q.text=y2 at *
  generalize bs q.value=y3 at *
  go_enter Tryz.func89,Tryz.ntmps89
  go_wp2_with fail
  go_ret
  exact⟨rfl,HB.out _ _⟩
theorem qqwl(p q:Fi)(w:World) :
 Calls Tryz.prog 87 #[fiV p,fiV q] w fun e w'=>e = .returned (.bool (decide (p=q)))∧Below w.heap.size w w':=by
 have HB:=Lib.hid (fun o o'=>qxh2 (qybm (w:=w) o) (qybm o'))
 unfold fiV
 obtain⟨D,hD⟩:∃D,decide (p=q)=D:=⟨_,rfl⟩
 rw[hD]
 have hno:p≠q→D=false:=fun h=>by rw[←hD];exact decide_eq_false h
 have HNO:=Lib.hid hno
 have HD:=Lib.hid hD
 clear hno hD
 rcases qpuj p q with h | h | ⟨h1,h2⟩ | ⟨h1,h2,h3⟩ | ⟨h1,h2,h3,h4⟩ | ⟨h1,h2,h3,h4,h5⟩
 ·have hD:D=true:=by rw[←HD.out];exact decide_eq_true h
  subst h hD
  clear HD HNO
  generalize bs p.topic=x0
  generalize p.qos=x1
  generalize p.noLocal=x2
  generalize p.asPub=x3
  generalize p.handling=x4
  go_enter Tryz.func87,Tryz.ntmps87
  go_wp2_with fail
  go_ret
  exact⟨rfl,HB.out _ _⟩
 ·have hD:=HNO.out (fun e=>by rw[e] at h;simp at h)
  clear HD HNO
  subst hD
  generalize bs p.topic=x0 at *
  generalize p.qos=x1 at *
  generalize p.noLocal=x2 at *
  generalize p.asPub=x3 at *
  generalize p.handling=x4 at *
  generalize bs q.topic=y0 at *
  generalize q.qos=y1 at *
  generalize q.noLocal=y2 at *
  generalize q.asPub=y3 at *
  generalize q.handling=y4 at *
  go_enter Tryz.func87,Tryz.ntmps87
  go_wp2_with fail
  go_ret
  exact⟨rfl,HB.out _ _⟩
 ·have hD:=HNO.out (fun e=>by rw[e] at h2;simp at h2)
  clear HD HNO
  subst hD
  rw[h1]
  clear h1
  generalize bs p.topic=x0 at *
  generalize p.qos=x1 at *
  generalize p.noLocal=x2 at *
  generalize p.asPub=x3 at *
  generalize p.handling=x4 at *
  generalize bs q.topic=y0 at *
  generalize q.qos=y1 at *
  generalize q.noLocal=y2 at *
  generalize q.asPub=y3 at *
  generalize q.handling=y4 at *
  go_enter Tryz.func87,Tryz.ntmps87
  go_wp2_with fail
  go_ret
  exact⟨rfl,HB.out _ _⟩
 ·have hD:=HNO.out (fun e=>by rw[e] at h3;simp at h3)
  clear HD HNO
  subst hD
  rw[h1]
  rw[h2]
  clear h1 h2
  generalize bs p.topic=x0 at *
  generalize p.qos=x1 at *
  generalize p.noLocal=x2 at *
  generalize p.asPub=x3 at *
  generalize p.handling=x4 at *
  generalize bs q.topic=y0 at *
  generalize q.qos=y1 at *
  generalize q.noLocal=y2 at *
  generalize q.asPub=y3 at *
  generalize q.handling=y4 at *
  go_enter Tryz.func87,Tryz.ntmps87
  go_wp2_with fail
  go_ret
  exact⟨rfl,HB.out _ _⟩
 ·have hD:=HNO.out (fun e=>by rw[e] at h4;simp at h4)
  clear HD HNO
  subst hD
  rw[h1]
  rw[h2]
  rw[h3]
  clear h1 h2 h3
  generalize bs p.topic=x0 at *
  generalize p.qos=x1 at *
  generalize p.noLocal=x2 at *
  generalize p.asPub=x3 at *
  generalize p.handling=x4 at *
  generalize bs q.topic=y0 at *
  generalize q.qos=y1 at *
  generalize q.noLocal=y2 at *
  generalize q.asPub=y3 at *
  generalize q.handling=y4 at *
  go_enter Tryz.func87,Tryz.ntmps87
  go_wp2_with fail
  go_ret
  exact⟨rfl,HB.out _ _⟩
 ·have hD:=HNO.out (fun e=>by rw[e] at h5;simp at h5)
  clear HD HNO
  subst hD
  rw[h1]
  rw[h2]
  rw[h3]
  rw[h4]
  clear h1 h2 h3 h4
  generalize bs p.topic=x0 at *
  generalize p.qos=x1 at *
  generalize p.noLocal=x2 at *
  generalize p.asPub=x3 at *
  generalize p.handling=x4 at *
  generalize bs q.topic=y0 at *
  generalize q.qos=y1 at *
  generalize q.noLocal=y2 at *
  generalize q.asPub=y3 at *
  generalize q.handling=y4 at *
  go_enter Tryz.func87,Tryz.ntmps87
  go_wp2_with fail
  go_ret
  exact⟨rfl,HB.out _ _⟩
theorem q588(p q:Int)(w:World) :
 Calls Tryz.prog 85 #[.int .i64 p,.int .i64 q] w fun e w'=>e = .returned (.bool (decide (p=q)))∧Below w.heap.size w w':=by
 have HR:=Lib.hid (Below.refl w.heap.size w)
 have e:(p==q)=decide (p=q):=by rw[Bool.eq_iff_iff];simp
 rw[←e]
 clear e
 go_enter Tryz.func85,Tryz.ntmps85
 go_wp2_with fail
 go_ret
 exact⟨rfl,HR.out⟩
theorem qk57(A B:Option Addr)(na nb c d:Nat)(l m:List Pr)(w:World)(hA:PL w A l)(hB:PL w B m)(hla:l.length=na)(hlb:m.length=nb)(hN:na≤70000)(hM:nb≤70000) :
 Calls Tryz.prog 88 #[.slice A na c,.slice B nb d,.func (.func 89) #[] #[]] w fun e w'=>e = .returned (.bool (decide (l=m)))∧Below w.heap.size w w':=by
 by_cases hn:na=nb
 ·subst hn
  obtain⟨D,hD⟩:∃D,decide (l=m)=D:=⟨_,rfl⟩
  rw[hD]
  have HD:=Lib.hid hD
  have HA:=Lib.hid hA
  have HB:=Lib.hid hB
  have HLA:=Lib.hid hla
  have HLB:=Lib.hid hlb
  have B0:=Lib.hid (Below.refl w.heap.size w)
  have q0:(na:Int)≤70000:=by omega
  clear hA hB hla hlb hN hM hD
  go_enter Tryz.func88,Tryz.ntmps88
  go_wp2_with fail
  go_loopg [17] na (fun gk i wr=>∃k:Nat,k≤na∧gk=na - k∧i = .int .i64 (k:Int)∧Below w.heap.size w wr∧∀j p q,j < k→l[j]? = some p→m[j]? = some q→p=q)
  case atStart=>exact⟨0,Nat.zero_le _,rfl,rfl,B0.out,fun j p q h=>by omega⟩
  case round=>
   obtain⟨k,hk,rfl,rfl,hb,hS⟩:=hrel
   have HS:=Lib.hid hS
   have B1:=Lib.hid hb
   by_cases hlt:k < na
   ·have hkl:k < l.length:=by rw[HLA.out];exact hlt
    have hkm:k < m.length:=by rw[HLB.out];exact hlt
    obtain⟨p,hp⟩:∃p,l[k]? = some p:=⟨_,List.getElem?_eq_getElem hkl⟩
    obtain⟨q,hq⟩:∃q,m[k]? = some q:=⟨_,List.getElem?_eq_getElem hkm⟩
    have HA2:=Lib.hid (HA.out.below hb)
    have HB2:=Lib.hid (HB.out.below hb)
    obtain⟨ga,ia,rfl,la,a0,a1,a2,a3⟩:=HA2.out.at hp
    obtain⟨gb,ib,rfl,lb,b0,b1,b2,b3⟩:=HB2.out.at hq
    have HP:=Lib.hid hp
    have HQ:=Lib.hid hq
    have HL:=Lib.hid hlt
    have g1:(k:Int) < (na:Int):=by omega
    have g2:=hb.size
    have hyes:p=q∨D=false:=by
     by_cases h:p=q
     ·exact .inl h
     ·refine .inr ?_
      rw[←HD.out]
      exact decide_eq_false fun e=>h (by subst e;exact Option.some.inj (HP.out.symm.trans HQ.out))
    have HY:=Lib.hid hyes
    have SM:=Lib.hid (qbkq p q)
    obtain⟨E,hE⟩:∃E,decide (p=q)=E:=⟨_,rfl⟩
    rw[hE] at SM
    have HE:=Lib.hid hE
    clear hS hkl hkm hp hq hlt hk hyes hb hE
    unfold qbhk at SM
    go_wp2_with fail
    refine(SM.out _).mono ?_
    rintro e w3 ⟨rfl,hb⟩
    have B2:=Lib.hid (qxh2 (qxh2 (qxh2 B1.out (qybm _)) (qybm _)) hb)
    clear hb
    cases E with
    | true=>
     go_wp2_with fail
     go_roundg (na - (k+1))
     case measure=>have:=HL.out;omega
     case rel=>
      have hpq:p=q:=of_decide_eq_true HE.out
      refine⟨k+1,by have:=HL.out;omega,rfl,by go_num,B2.out,fun j u v hj hu hv=>?_⟩
      by_cases hjk:j=k
      ·subst hjk
       exact((Option.some.inj (hu.symm.trans HP.out)).trans hpq).trans (Option.some.inj (HQ.out.symm.trans hv))
      ·exact HS.out j u v (by omega) hu hv
    | false=>
     have hD:D=false:=(HY.out).resolve_left (of_decide_eq_false HE.out)
     subst hD
     go_wp2_with fail
     go_ret
     exact⟨rfl,B2.out⟩
   ·obtain rfl:k=na:=by omega
    have hD:D=true:=by rw[←HD.out];exact decide_eq_true (qs8g HLA.out HLB.out hS)
    subst hD
    clear hS hlt hk hb
    go_wp2_with fail
    go_ret
    exact⟨rfl,B1.out⟩
 ·have hD:decide (l=m)=false:=decide_eq_false fun e=>hn (by rw[←hla,←hlb,e])
  have q0:((na:Int) != (nb:Int))=true:=by rw[bne_iff_ne];omega
  have B0:=Lib.hid (Below.refl w.heap.size w)
  rw[hD]
  clear hA hB hla hlb hN hM hD hn
  go_enter Tryz.func88,Tryz.ntmps88
  go_wp2_with fail
  go_ret
  exact⟨rfl,B0.out⟩
theorem qm9z(A B:Option Addr)(na nb c d:Nat)(l m:List Fi)(w:World)(hA:CL w A (fcs l))(hB:CL w B (fcs m))(hla:l.length=na)(hlb:m.length=nb)(hN:na≤70000)(hM:nb≤70000) :
 Calls Tryz.prog 86 #[.slice A na c,.slice B nb d,.func (.func 87) #[] #[]] w fun e w'=>e = .returned (.bool (decide (l=m)))∧Below w.heap.size w w':=by
 by_cases hn:na=nb
 ·subst hn
  obtain⟨D,hD⟩:∃D,decide (l=m)=D:=⟨_,rfl⟩
  rw[hD]
  have HD:=Lib.hid hD
  have HA:=Lib.hid hA
  have HB:=Lib.hid hB
  have HLA:=Lib.hid hla
  have HLB:=Lib.hid hlb
  have B0:=Lib.hid (Below.refl w.heap.size w)
  have q0:(na:Int)≤70000:=by omega
  clear hA hB hla hlb hN hM hD
  go_enter Tryz.func86,Tryz.ntmps86
  go_wp2_with fail
  go_loopg [17] na (fun gk i wr=>∃k:Nat,k≤na∧gk=na - k∧i = .int .i64 (k:Int)∧Below w.heap.size w wr∧∀j p q,j < k→l[j]? = some p→m[j]? = some q→p=q)
  case atStart=>exact⟨0,Nat.zero_le _,rfl,rfl,B0.out,fun j p q h=>by omega⟩
  case round=>
   obtain⟨k,hk,rfl,rfl,hb,hS⟩:=hrel
   have HS:=Lib.hid hS
   have B1:=Lib.hid hb
   by_cases hlt:k < na
   ·have hkl:k < l.length:=by rw[HLA.out];exact hlt
    have hkm:k < m.length:=by rw[HLB.out];exact hlt
    obtain⟨p,hp⟩:∃p,l[k]? = some p:=⟨_,List.getElem?_eq_getElem hkl⟩
    obtain⟨q,hq⟩:∃q,m[k]? = some q:=⟨_,List.getElem?_eq_getElem hkm⟩
    have HA2:=Lib.hid (HA.out.below hb)
    have HB2:=Lib.hid (HB.out.below hb)
    obtain⟨ga,ia,rfl,la,a0,a1,a2,a3,a4⟩:=HA2.out.fi hp
    obtain⟨gb,ib,rfl,lb,b0,b1,b2,b3,b4⟩:=HB2.out.fi hq
    have HP:=Lib.hid hp
    have HQ:=Lib.hid hq
    have HL:=Lib.hid hlt
    have g1:(k:Int) < (na:Int):=by omega
    have g2:=hb.size
    have hyes:p=q∨D=false:=by
     by_cases h:p=q
     ·exact .inl h
     ·refine .inr ?_
      rw[←HD.out]
      exact decide_eq_false fun e=>h (by subst e;exact Option.some.inj (HP.out.symm.trans HQ.out))
    have HY:=Lib.hid hyes
    have SM:=Lib.hid (qqwl p q)
    obtain⟨E,hE⟩:∃E,decide (p=q)=E:=⟨_,rfl⟩
    rw[hE] at SM
    have HE:=Lib.hid hE
    clear hS hkl hkm hp hq hlt hk hyes hb hE
    unfold fiV at SM
    go_wp2_with fail
    refine(SM.out _).mono ?_
    rintro e w3 ⟨rfl,hb⟩
    have B2:=Lib.hid (qxh2 (qxh2 (qxh2 B1.out (qybm _)) (qybm _)) hb)
    clear hb
    cases E with
    | true=>
     go_wp2_with fail
     go_roundg (na - (k+1))
     case measure=>have:=HL.out;omega
     case rel=>
      have hpq:p=q:=of_decide_eq_true HE.out
      refine⟨k+1,by have:=HL.out;omega,rfl,by go_num,B2.out,fun j u v hj hu hv=>?_⟩
      by_cases hjk:j=k
      ·subst hjk
       exact((Option.some.inj (hu.symm.trans HP.out)).trans hpq).trans (Option.some.inj (HQ.out.symm.trans hv))
      ·exact HS.out j u v (by omega) hu hv
    | false=>
     have hD:D=false:=(HY.out).resolve_left (of_decide_eq_false HE.out)
     subst hD
     go_wp2_with fail
     go_ret
     exact⟨rfl,B2.out⟩
   ·obtain rfl:k=na:=by omega
    have hD:D=true:=by rw[←HD.out];exact decide_eq_true (qs8g HLA.out HLB.out hS)
    subst hD
    clear hS hlt hk hb
    go_wp2_with fail
    go_ret
    exact⟨rfl,B1.out⟩
 ·have hD:decide (l=m)=false:=decide_eq_false fun e=>hn (by rw[←hla,←hlb,e])
  have q0:((na:Int) != (nb:Int))=true:=by rw[bne_iff_ne];omega
  have B0:=Lib.hid (Below.refl w.heap.size w)
  rw[hD]
  clear hA hB hla hlb hN hM hD hn
  go_enter Tryz.func86,Tryz.ntmps86
  go_wp2_with fail
  go_ret
  exact⟨rfl,B0.out⟩
theorem q5se(A B:Option Addr)(na nb c d:Nat)(l m:List Int)(w:World)(hA:CL w A (ics l))(hB:CL w B (ics m))(hla:l.length=na)(hlb:m.length=nb)(hN:na≤70000)(hM:nb≤70000) :
 Calls Tryz.prog 84 #[.slice A na c,.slice B nb d,.func (.func 85) #[] #[]] w fun e w'=>e = .returned (.bool (decide (l=m)))∧Below w.heap.size w w':=by
 by_cases hn:na=nb
 ·subst hn
  obtain⟨D,hD⟩:∃D,decide (l=m)=D:=⟨_,rfl⟩
  rw[hD]
  have HD:=Lib.hid hD
  have HA:=Lib.hid hA
  have HB:=Lib.hid hB
  have HLA:=Lib.hid hla
  have HLB:=Lib.hid hlb
  have B0:=Lib.hid (Below.refl w.heap.size w)
  have q0:(na:Int)≤70000:=by omega
  clear hA hB hla hlb hN hM hD
  go_enter Tryz.func84,Tryz.ntmps84
  go_wp2_with fail
  go_loopg [17] na (fun gk i wr=>∃k:Nat,k≤na∧gk=na - k∧i = .int .i64 (k:Int)∧Below w.heap.size w wr∧∀j p q,j < k→l[j]? = some p→m[j]? = some q→p=q)
  case atStart=>exact⟨0,Nat.zero_le _,rfl,rfl,B0.out,fun j p q h=>by omega⟩
  case round=>
   obtain⟨k,hk,rfl,rfl,hb,hS⟩:=hrel
   have HS:=Lib.hid hS
   have B1:=Lib.hid hb
   by_cases hlt:k < na
   ·have hkl:k < l.length:=by rw[HLA.out];exact hlt
    have hkm:k < m.length:=by rw[HLB.out];exact hlt
    obtain⟨p,hp⟩:∃p,l[k]? = some p:=⟨_,List.getElem?_eq_getElem hkl⟩
    obtain⟨q,hq⟩:∃q,m[k]? = some q:=⟨_,List.getElem?_eq_getElem hkm⟩
    have HA2:=Lib.hid (HA.out.below hb)
    have HB2:=Lib.hid (HB.out.below hb)
    obtain⟨ga,ia,rfl,la,a0⟩:=HA2.out.int hp
    obtain⟨gb,ib,rfl,lb,b0⟩:=HB2.out.int hq
    have HP:=Lib.hid hp
    have HQ:=Lib.hid hq
    have HL:=Lib.hid hlt
    have g1:(k:Int) < (na:Int):=by omega
    have g2:=hb.size
    have hyes:p=q∨D=false:=by
     by_cases h:p=q
     ·exact .inl h
     ·refine .inr ?_
      rw[←HD.out]
      exact decide_eq_false fun e=>h (by subst e;exact Option.some.inj (HP.out.symm.trans HQ.out))
    have HY:=Lib.hid hyes
    have SM:=Lib.hid (q588 p q)
    obtain⟨E,hE⟩:∃E,decide (p=q)=E:=⟨_,rfl⟩
    rw[hE] at SM
    have HE:=Lib.hid hE
    clear hS hkl hkm hp hq hlt hk hyes hb hE
    go_wp2_with fail
    refine(SM.out _).mono ?_
    rintro e w3 ⟨rfl,hb⟩
    have B2:=Lib.hid (qxh2 B1.out hb)
    clear hb
    cases E with
    | true=>
     go_wp2_with fail
     go_roundg (na - (k+1))
     case measure=>have:=HL.out;omega
     case rel=>
      have hpq:p=q:=of_decide_eq_true HE.out
      refine⟨k+1,by have:=HL.out;omega,rfl,by go_num,B2.out,fun j u v hj hu hv=>?_⟩
      by_cases hjk:j=k
      ·subst hjk
       exact((Option.some.inj (hu.symm.trans HP.out)).trans hpq).trans (Option.some.inj (HQ.out.symm.trans hv))
      ·exact HS.out j u v (by omega) hu hv
    | false=>
     have hD:D=false:=(HY.out).resolve_left (of_decide_eq_false HE.out)
     subst hD
     go_wp2_with fail
     go_ret
     exact⟨rfl,B2.out⟩
   ·obtain rfl:k=na:=by omega
    have hD:D=true:=by rw[←HD.out];exact decide_eq_true (qs8g HLA.out HLB.out hS)
    subst hD
    clear hS hlt hk hb
    go_wp2_with fail
    go_ret
    exact⟨rfl,B1.out⟩
 ·have hD:decide (l=m)=false:=decide_eq_false fun e=>hn (by rw[←hla,←hlb,e])
  have q0:((na:Int) != (nb:Int))=true:=by rw[bne_iff_ne];omega
  have B0:=Lib.hid (Below.refl w.heap.size w)
  rw[hD]
  clear hA hB hla hlb hN hM hD hn
  go_enter Tryz.func84,Tryz.ntmps84
  go_wp2_with fail
  go_ret
  exact⟨rfl,B0.out⟩
end Go.Proofs.YtbklidpadffpgaaGreat
