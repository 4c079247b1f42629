/- The contracts of head.same and of slices.EqualFunc with it. Condition: at most 70,000 elements. -/
import Derived.Deep.LoopGhost
import Derived.Deep.QuietTactic
import Derived.StillTailTactics
import Derived.IntWalk
import Derived.Test.YtbecggefmbpnoaaGreatDoorK08
import Derived.Test.YtbecggefmbpnoaaGreatDoorK17
set_option maxRecDepth 100000
set_option maxHeartbeats 2000000
namespace Go.Proofs.YtbecggefmbpnoaaGreatDoor
open Go.RowKit
theorem qbkq(p q:Pr)(w:World) :
 Calls Tryz.prog 126 #[qbhk p,qbhk q] w fun e w'=>e = .returned (.bool (decide (p=q)))∧Below w.heap.size w w':=by
 have HB:=Lib.hid (fun o o'=>qxh2 (qybm (w:=w) o) (qybm o'))
 unfold qbhk
 obtain⟨D,hD⟩:∃D,decide (p=q)=D:=⟨_,rfl⟩
 rw[hD]
 have hno:p≠q→D=false:=fun h=>by rw[←hD];exact decide_eq_false h
 have HNO:=Lib.hid hno
 have HD:=Lib.hid hD
 clear hno hD
 rcases qzlf p q with h | h | ⟨h1,h2⟩ | ⟨h1,h2,h3⟩ | ⟨h1,h2,h3,h4⟩
 ·have hD:D=true:=by rw[←HD.out];exact decide_eq_true h
  subst h hD
  clear HD HNO
  generalize p.id=x0
  generalize ((p.n:Nat):Int)=x1
  generalize bs p.text=x2
  generalize bs p.value=x3
  go_enter Tryz.func126,Tryz.ntmps126
  go_wp2_with fail
  go_ret
  exact⟨rfl,HB.out _ _⟩
 ·have hD:=HNO.out (fun e=>by rw[e] at h;simp at h)
  clear HD HNO
  subst hD
  generalize p.id=x0 at *
  generalize ((p.n:Nat):Int)=x1 at *
  generalize bs p.text=x2 at *
  generalize bs p.value=x3 at *
  generalize q.id=y0 at *
  generalize ((q.n:Nat):Int)=y1 at *
  generalize bs q.text=y2 at *
  generalize bs q.value=y3 at *
  go_enter Tryz.func126,Tryz.ntmps126
  go_wp2_with fail
  go_ret
  exact⟨rfl,HB.out _ _⟩
 ·have hD:=HNO.out (fun e=>by rw[e] at h2;simp at h2)
  clear HD HNO
  subst hD
  rw[h1]
  clear h1
  generalize p.id=x0 at *
  generalize ((p.n:Nat):Int)=x1 at *
  generalize bs p.text=x2 at *
  generalize bs p.value=x3 at *
  generalize q.id=y0 at *
  generalize ((q.n:Nat):Int)=y1 at *
  generalize bs q.text=y2 at *
  generalize bs q.value=y3 at *
  go_enter Tryz.func126,Tryz.ntmps126
  go_wp2_with fail
  go_ret
  exact⟨rfl,HB.out _ _⟩
 ·have hD:=HNO.out (fun e=>by rw[e] at h3;simp at h3)
  clear HD HNO
  subst hD
  rw[h1]
  rw[h2]
  clear h1 h2
  generalize p.id=x0 at *
  generalize ((p.n:Nat):Int)=x1 at *
  generalize bs p.text=x2 at *
  generalize bs p.value=x3 at *
  generalize q.id=y0 at *
  generalize ((q.n:Nat):Int)=y1 at *
  generalize bs q.text=y2 at *
  generalize bs q.value=y3 at *
  go_enter Tryz.func126,Tryz.ntmps126
  go_wp2_with fail
  go_ret
  exact⟨rfl,HB.out _ _⟩
 ·have hD:=HNO.out (fun e=>by rw[e] at h4;simp at h4)
  clear HD HNO
  subst hD
  rw[h1]
  rw[h2]
  rw[h3]
  clear h1 h2 h3
  generalize p.id=x0 at *
  generalize ((p.n:Nat):Int)=x1 at *
  generalize bs p.text=x2 at *
  generalize bs p.value=x3 at *
  generalize q.id=y0 at *
  generalize ((q.n:Nat):Int)=y1 at *
  generalize bs q.text=y2 at *
  generalize bs q.value=y3 at *
  go_enter Tryz.func126,Tryz.ntmps126
  go_wp2_with fail
  go_ret
  exact⟨rfl,HB.out _ _⟩
theorem qqwl(p q:Fi)(w:World) :
 Calls Tryz.prog 124 #[fiV p,fiV q] w fun e w'=>e = .returned (.bool (decide (p=q)))∧Below w.heap.size w w':=by
 have HB:=Lib.hid (fun o o'=>qxh2 (qybm (w:=w) o) (qybm o'))
 unfold fiV
 obtain⟨D,hD⟩:∃D,decide (p=q)=D:=⟨_,rfl⟩
 rw[hD]
 have hno:p≠q→D=false:=fun h=>by rw[←hD];exact decide_eq_false h
 have HNO:=Lib.hid hno
 have HD:=Lib.hid hD
 clear hno hD
 rcases qpuj p q with h | h | ⟨h1,h2⟩ | ⟨h1,h2,h3⟩ | ⟨h1,h2,h3,h4⟩ | ⟨h1,h2,h3,h4,h5⟩
 ·have hD:D=true:=by rw[←HD.out];exact decide_eq_true h
  subst h hD
  clear HD HNO
  generalize bs p.topic=x0
  generalize p.qos=x1
  generalize p.noLocal=x2
  generalize p.asPub=x3
  generalize p.handling=x4
  go_enter Tryz.func124,Tryz.ntmps124
  go_wp2_with fail
  go_ret
  exact⟨rfl,HB.out _ _⟩
 ·have hD:=HNO.out (fun e=>by rw[e] at h;simp at h)
  clear HD HNO
  subst hD
  generalize bs p.topic=x0 at *
  generalize p.qos=x1 at *
  generalize p.noLocal=x2 at *
  generalize p.asPub=x3 at *
  generalize p.handling=x4 at *
  generalize bs q.topic=y0 at *
  generalize q.qos=y1 at *
  generalize q.noLocal=y2 at *
  generalize q.asPub=y3 at *
  generalize q.handling=y4 at *
  go_enter Tryz.func124,Tryz.ntmps124
  go_wp2_with fail
  go_ret
  exact⟨rfl,HB.out _ _⟩
 ·have hD:=HNO.out (fun e=>by rw[e] at h2;simp at h2)
  clear HD HNO
  subst hD
  rw[h1]
  clear h1
  generalize bs p.topic=x0 at *
  generalize p.qos=x1 at *
  generalize p.noLocal=x2 at *
  generalize p.asPub=x3 at *
  generalize p.handling=x4 at *
  generalize bs q.topic=y0 at *
  generalize q.qos=y1 at *
  generalize q.noLocal=y2 at *
  generalize q.asPub=y3 at *
  generalize q.handling=y4 at *
  go_enter Tryz.func124,Tryz.ntmps124
  go_wp2_with fail
  go_ret
  exact⟨rfl,HB.out _ _⟩
 ·have hD:=HNO.out (fun e=>by rw[e] at h3;simp at h3)
  clear HD HNO
  subst hD
  rw[h1]
  rw[h2]
  clear h1 h2
  generalize bs p.topic=x0 at *
  generalize p.qos=x1 at *
  generalize p.noLocal=x2 at *
  generalize p.asPub=x3 at *
  generalize p.handling=x4 at *
  generalize bs q.topic=y0 at *
  generalize q.qos=y1 at *
  generalize q.noLocal=y2 at *
  generalize q.asPub=y3 at *
  generalize q.handling=y4 at *
  go_enter Tryz.func124,Tryz.ntmps124
  go_wp2_with fail
  go_ret
  exact⟨rfl,HB.out _ _⟩
 ·have hD:=HNO.out (fun e=>by rw[e] at h4;simp at h4)
  clear HD HNO
  subst hD
  rw[h1]
  rw[h2]
  rw[h3]
  clear h1 h2 h3
  generalize bs p.topic=x0 at *
  generalize p.qos=x1 at *
  generalize p.noLocal=x2 at *
  generalize p.asPub=x3 at *
  generalize p.handling=x4 at *
  generalize bs q.topic=y0 at *
  generalize q.qos=y1 at *
  generalize q.noLocal=y2 at *
  generalize q.asPub=y3 at *
  generalize q.handling=y4 at *
  go_enter Tryz.func124,Tryz.ntmps124
  go_wp2_with fail
  go_ret
  exact⟨rfl,HB.out _ _⟩
 ·have hD:=HNO.out (fun e=>by rw[e] at h5;simp at h5)
  clear HD HNO
  subst hD
  rw[h1]
  rw[h2]
  rw[h3]
  rw[h4]
  clear h1 h2 h3 h4
  generalize bs p.topic=x0 at *
  generalize p.qos=x1 at *
  generalize p.noLocal=x2 at *
  generalize p.asPub=x3 at *
  generalize p.handling=x4 at *
  generalize bs q.topic=y0 at *
  generalize q.qos=y1 at *
  generalize q.noLocal=y2 at *
  generalize q.asPub=y3 at *
  generalize q.handling=y4 at *
  go_enter Tryz.func124,Tryz.ntmps124
  go_wp2_with fail
  go_ret
  exact⟨rfl,HB.out _ _⟩
theorem q588(p q:Int)(w:World) :
 Calls Tryz.prog 122 #[.int .i64 p,.int .i64 q] w fun e w'=>e = .returned (.bool (decide (p=q)))∧Below w.heap.size w w':=by
 have HR:=Lib.hid (Below.refl w.heap.size w)
 have e:(p==q)=decide (p=q):=by rw[Bool.eq_iff_iff];simp
 rw[←e]
 clear e
 go_enter Tryz.func122,Tryz.ntmps122
 go_wp2_with fail
 go_ret
 exact⟨rfl,HR.out⟩
theorem qk57(A B:Option Addr)(na nb c d:Nat)(l m:List Pr)(w:World)(hA:PL w A l)(hB:PL w B m)(hla:l.length=na)(hlb:m.length=nb)(hN:na≤70000)(hM:nb≤70000) :
 Calls Tryz.prog 125 #[.slice A na c,.slice B nb d,.func (.func 126) #[] #[]] w fun e w'=>e = .returned (.bool (decide (l=m)))∧Below w.heap.size w w':=by
 by_cases hn:na=nb
 ·subst hn
  obtain⟨D,hD⟩:∃D,decide (l=m)=D:=⟨_,rfl⟩
  rw[hD]
  have HD:=Lib.hid hD
  have HA:=Lib.hid hA
  have HB:=Lib.hid hB
  have HLA:=Lib.hid hla
  have HLB:=Lib.hid hlb
  have B0:=Lib.hid (Below.refl w.heap.size w)
  have q0:(na:Int)≤70000:=by omega
  clear hA hB hla hlb hN hM hD
  go_enter Tryz.func125,Tryz.ntmps125
  go_wp2_with fail
  go_loopg [17] na (fun gk i wr=>∃k:Nat,k≤na∧gk=na - k∧i = .int .i64 (k:Int)∧Below w.heap.size w wr∧∀j p q,j < k→l[j]? = some p→m[j]? = some q→p=q)
  case atStart=>exact⟨0,Nat.zero_le _,rfl,rfl,B0.out,fun j p q h=>by omega⟩
  case round=>
   obtain⟨k,hk,rfl,rfl,hb,hS⟩:=hrel
   have HS:=Lib.hid hS
   have B1:=Lib.hid hb
   by_cases hlt:k < na
   ·have hkl:k < l.length:=by rw[HLA.out];exact hlt
    have hkm:k < m.length:=by rw[HLB.out];exact hlt
    obtain⟨p,hp⟩:∃p,l[k]? = some p:=⟨_,List.getElem?_eq_getElem hkl⟩
    obtain⟨q,hq⟩:∃q,m[k]? = some q:=⟨_,List.getElem?_eq_getElem hkm⟩
    have HA2:=Lib.hid (HA.out.below hb)
    have HB2:=Lib.hid (HB.out.below hb)
    obtain⟨ga,ia,rfl,la,a0,a1,a2,a3⟩:=HA2.out.at hp
    obtain⟨gb,ib,rfl,lb,b0,b1,b2,b3⟩:=HB2.out.at hq
    have HP:=Lib.hid hp
    have HQ:=Lib.hid hq
    have HL:=Lib.hid hlt
    have g1:(k:Int) < (na:Int):=by omega
    have g2:=hb.size
    have hyes:p=q∨D=false:=by
     by_cases h:p=q
     ·exact .inl h
     ·refine .inr ?_
      rw[←HD.out]
      exact decide_eq_false fun e=>h (by subst e;exact Option.some.inj (HP.out.symm.trans HQ.out))
    have HY:=Lib.hid hyes
    have SM:=Lib.hid (qbkq p q)
    obtain⟨E,hE⟩:∃E,decide (p=q)=E:=⟨_,rfl⟩
    rw[hE] at SM
    have HE:=Lib.hid hE
    clear hS hkl hkm hp hq hlt hk hyes hb hE
    unfold qbhk at SM
    go_wp2_with fail
    refine(SM.out _).mono ?_
    rintro e w3 ⟨rfl,hb⟩
    have B2:=Lib.hid (qxh2 (qxh2 (qxh2 B1.out (qybm _)) (qybm _)) hb)
    clear hb
    cases E with
    | true=>
     go_wp2_with fail
     go_roundg (na - (k+1))
     case measure=>have:=HL.out;omega
     case rel=>
      have hpq:p=q:=of_decide_eq_true HE.out
      refine⟨k+1,by have:=HL.out;omega,rfl,by go_num,B2.out,fun j u v hj hu hv=>?_⟩
      by_cases hjk:j=k
      ·subst hjk
       exact((Option.some.inj (hu.symm.trans HP.out)).trans hpq).trans (Option.some.inj (HQ.out.symm.trans hv))
      ·exact HS.out j u v (by omega) hu hv
    | false=>
     have hD:D=false:=(HY.out).resolve_left (of_decide_eq_false HE.out)
     subst hD
     go_wp2_with fail
     go_ret
     exact⟨rfl,B2.out⟩
   ·obtain rfl:k=na:=by omega
    have hD:D=true:=by rw[←HD.out];exact decide_eq_true (qs8g HLA.out HLB.out hS)
    subst hD
    clear hS hlt hk hb
    go_wp2_with fail
    go_ret
    exact⟨rfl,B1.out⟩
 ·have hD:decide (l=m)=false:=decide_eq_false fun e=>hn (by rw[←hla,←hlb,e])
  have q0:((na:Int) != (nb:Int))=true:=by rw[bne_iff_ne];omega
  have B0:=Lib.hid (Below.refl w.heap.size w)
  rw[hD]
  clear hA hB hla hlb hN hM hD hn
  go_enter Tryz.func125,Tryz.ntmps125
  go_wp2_with fail
  go_ret
  exact⟨rfl,B0.out⟩
theorem qm9z(A B:Option Addr)(na nb c d:Nat)(l m:List Fi)(w:World)(hA:CL w A (fcs l))(hB:CL w B (fcs m))(hla:l.length=na)(hlb:m.length=nb)(hN:na≤70000)(hM:nb≤70000) :
 Calls Tryz.prog 123 #[.slice A na c,.slice B nb d,.func (.func 124) #[] #[]] w fun e w'=>e = .returned (.bool (decide (l=m)))∧Below w.heap.size w w':=by
 by_cases hn:na=nb
 ·subst hn
  obtain⟨D,hD⟩:∃D,decide (l=m)=D:=⟨_,rfl⟩
  rw[hD]
  have HD:=Lib.hid hD
  have HA:=Lib.hid hA
  have HB:=Lib.hid hB
  have HLA:=Lib.hid hla
  have HLB:=Lib.hid hlb
  have B0:=Lib.hid (Below.refl w.heap.size w)
  have q0:(na:Int)≤70000:=by omega
  clear hA hB hla hlb hN hM hD
  go_enter Tryz.func123,Tryz.ntmps123
  go_wp2_with fail
  go_loopg [17] na (fun gk i wr=>∃k:Nat,k≤na∧gk=na - k∧i = .int .i64 (k:Int)∧Below w.heap.size w wr∧∀j p q,j < k→l[j]? = some p→m[j]? = some q→p=q)
  case atStart=>exact⟨0,Nat.zero_le _,rfl,rfl,B0.out,fun j p q h=>by omega⟩
  case round=>
   obtain⟨k,hk,rfl,rfl,hb,hS⟩:=hrel
   have HS:=Lib.hid hS
   have B1:=Lib.hid hb
   by_cases hlt:k < na
   ·have hkl:k < l.length:=by rw[HLA.out];exact hlt
    have hkm:k < m.length:=by rw[HLB.out];exact hlt
    obtain⟨p,hp⟩:∃p,l[k]? = some p:=⟨_,List.getElem?_eq_getElem hkl⟩
    obtain⟨q,hq⟩:∃q,m[k]? = some q:=⟨_,List.getElem?_eq_getElem hkm⟩
    have HA2:=Lib.hid (HA.out.below hb)
    have HB2:=Lib.hid (HB.out.below hb)
    obtain⟨ga,ia,rfl,la,a0,a1,a2,a3,a4⟩:=HA2.out.fi hp
    obtain⟨gb,ib,rfl,lb,b0,b1,b2,b3,b4⟩:=HB2.out.fi hq
    have HP:=Lib.hid hp
    have HQ:=Lib.hid hq
    have HL:=Lib.hid hlt
    have g1:(k:Int) < (na:Int):=by omega
    have g2:=hb.size
    have hyes:p=q∨D=false:=by
     by_cases h:p=q
     ·exact .inl h
     ·refine .inr ?_
      rw[←HD.out]
      exact decide_eq_false fun e=>h (by subst e;exact Option.some.inj (HP.out.symm.trans HQ.out))
    have HY:=Lib.hid hyes
    have SM:=Lib.hid (qqwl p q)
    obtain⟨E,hE⟩:∃E,decide (p=q)=E:=⟨_,rfl⟩
    rw[hE] at SM
    have HE:=Lib.hid hE
    clear hS hkl hkm hp hq hlt hk hyes hb hE
    unfold fiV at SM
    go_wp2_with fail
    refine(SM.out _).mono ?_
    rintro e w3 ⟨rfl,hb⟩
    have B2:=Lib.hid (qxh2 (qxh2 (qxh2 B1.out (qybm _)) (qybm _)) hb)
    clear hb
    cases E with
    | true=>
     go_wp2_with fail
     go_roundg (na - (k+1))
     case measure=>have:=HL.out;omega
     case rel=>
      have hpq:p=q:=of_decide_eq_true HE.out
      refine⟨k+1,by have:=HL.out;omega,rfl,by go_num,B2.out,fun j u v hj hu hv=>?_⟩
      by_cases hjk:j=k
      ·subst hjk
       exact((Option.some.inj (hu.symm.trans HP.out)).trans hpq).trans (Option.some.inj (HQ.out.symm.trans hv))
      ·exact HS.out j u v (by omega) hu hv
    | false=>
     have hD:D=false:=(HY.out).resolve_left (of_decide_eq_false HE.out)
     subst hD
     go_wp2_with fail
     go_ret
     exact⟨rfl,B2.out⟩
   ·obtain rfl:k=na:=by omega
    have hD:D=true:=by rw[←HD.out];exact decide_eq_true (qs8g HLA.out HLB.out hS)
    subst hD
    clear hS hlt hk hb
    go_wp2_with fail
    go_ret
    exact⟨rfl,B1.out⟩
 ·have hD:decide (l=m)=false:=decide_eq_false fun e=>hn (by rw[←hla,←hlb,e])
  have q0:((na:Int) != (nb:Int))=true:=by rw[bne_iff_ne];omega
  have B0:=Lib.hid (Below.refl w.heap.size w)
  rw[hD]
  clear hA hB hla hlb hN hM hD hn
  go_enter Tryz.func123,Tryz.ntmps123
  go_wp2_with fail
  go_ret
  exact⟨rfl,B0.out⟩
theorem q5se(A B:Option Addr)(na nb c d:Nat)(l m:List Int)(w:World)(hA:CL w A (ics l))(hB:CL w B (ics m))(hla:l.length=na)(hlb:m.length=nb)(hN:na≤70000)(hM:nb≤70000) :
 Calls Tryz.prog 121 #[.slice A na c,.slice B nb d,.func (.func 122) #[] #[]] w fun e w'=>e = .returned (.bool (decide (l=m)))∧Below w.heap.size w w':=by
 by_cases hn:na=nb
 ·subst hn
  obtain⟨D,hD⟩:∃D,decide (l=m)=D:=⟨_,rfl⟩
  rw[hD]
  have HD:=Lib.hid hD
  have HA:=Lib.hid hA
  have HB:=Lib.hid hB
  have HLA:=Lib.hid hla
  have HLB:=Lib.hid hlb
  have B0:=Lib.hid (Below.refl w.heap.size w)
  have q0:(na:Int)≤70000:=by omega
  clear hA hB hla hlb hN hM hD
  go_enter Tryz.func121,Tryz.ntmps121
  go_wp2_with fail
  go_loopg [17] na (fun gk i wr=>∃k:Nat,k≤na∧gk=na - k∧i = .int .i64 (k:Int)∧Below w.heap.size w wr∧∀j p q,j < k→l[j]? = some p→m[j]? = some q→p=q)
  case atStart=>exact⟨0,Nat.zero_le _,rfl,rfl,B0.out,fun j p q h=>by omega⟩
  case round=>
   obtain⟨k,hk,rfl,rfl,hb,hS⟩:=hrel
   have HS:=Lib.hid hS
   have B1:=Lib.hid hb
   by_cases hlt:k < na
   ·have hkl:k < l.length:=by rw[HLA.out];exact hlt
    have hkm:k < m.length:=by rw[HLB.out];exact hlt
    obtain⟨p,hp⟩:∃p,l[k]? = some p:=⟨_,List.getElem?_eq_getElem hkl⟩
    obtain⟨q,hq⟩:∃q,m[k]? = some q:=⟨_,List.getElem?_eq_getElem hkm⟩
    have HA2:=Lib.hid (HA.out.below hb)
    have HB2:=Lib.hid (HB.out.below hb)
    obtain⟨ga,ia,rfl,la,a0⟩:=HA2.out.int hp
    obtain⟨gb,ib,rfl,lb,b0⟩:=HB2.out.int hq
    have HP:=Lib.hid hp
    have HQ:=Lib.hid hq
    have HL:=Lib.hid hlt
    have g1:(k:Int) < (na:Int):=by omega
    have g2:=hb.size
    have hyes:p=q∨D=false:=by
     by_cases h:p=q
     ·exact .inl h
     ·refine .inr ?_
      rw[←HD.out]
      exact decide_eq_false fun e=>h (by subst e;exact Option.some.inj (HP.out.symm.trans HQ.out))
    have HY:=Lib.hid hyes
    have SM:=Lib.hid (q588 p q)
    obtain⟨E,hE⟩:∃E,decide (p=q)=E:=⟨_,rfl⟩
    rw[hE] at SM
    have HE:=Lib.hid hE
    clear hS hkl hkm hp hq hlt hk hyes hb hE
    go_wp2_with fail
    refine(SM.out _).mono ?_
    rintro e w3 ⟨rfl,hb⟩
    have B2:=Lib.hid (qxh2 B1.out hb)
    clear hb
    cases E with
    | true=>
     go_wp2_with fail
     go_roundg (na - (k+1))
     case measure=>have:=HL.out;omega
     case rel=>
      have hpq:p=q:=of_decide_eq_true HE.out
      refine⟨k+1,by have:=HL.out;omega,rfl,by go_num,B2.out,fun j u v hj hu hv=>?_⟩
      by_cases hjk:j=k
      ·subst hjk
       exact((Option.some.inj (hu.symm.trans HP.out)).trans hpq).trans (Option.some.inj (HQ.out.symm.trans hv))
      ·exact HS.out j u v (by omega) hu hv
    | false=>
     have hD:D=false:=(HY.out).resolve_left (of_decide_eq_false HE.out)
     subst hD
     go_wp2_with fail
     go_ret
     exact⟨rfl,B2.out⟩
   ·obtain rfl:k=na:=by omega
    have hD:D=true:=by rw[←HD.out];exact decide_eq_true (qs8g HLA.out HLB.out hS)
    subst hD
    clear hS hlt hk hb
    go_wp2_with fail
    go_ret
    exact⟨rfl,B1.out⟩
 ·have hD:decide (l=m)=false:=decide_eq_false fun e=>hn (by rw[←hla,←hlb,e])
  have q0:((na:Int) != (nb:Int))=true:=by rw[bne_iff_ne];omega
  have B0:=Lib.hid (Below.refl w.heap.size w)
  rw[hD]
  clear hA hB hla hlb hN hM hD hn
  go_enter Tryz.func121,Tryz.ntmps121
  go_wp2_with fail
  go_ret
  exact⟨rfl,B0.out⟩
theorem qnz1(b:UInt8)(n:Nat)(w:World) :
 Calls Tryz.prog 209 #[.int .u8 b.toNat,.int .i64 n] w fun e w'=>e = .returned (.int .i64 (nxt b n))∧w=w':=by
 have hb:=b.toNat_lt
 have ha:=qm1s b
 by_cases h1:128≤b.toNat
 ·rw[if_pos h1] at ha
  by_cases h2:n=4
  ·subst h2
   have e:nxt b 4=2:=qt6b.2 (.inl ⟨h1,rfl⟩)
   rw[e];clear e
   go_enter Tryz.func209,Tryz.ntmps209
   go_wp2
   go_ret
   exact⟨rfl,rfl⟩
  ·have e:nxt b n=0:=qv8z.2 ⟨h1,h2⟩
   rw[e];clear e
   have h3:((n:Int)==4)=false:=by simp;omega
   go_enter Tryz.func209,Tryz.ntmps209
   go_wp2
   go_ret
   exact⟨rfl,rfl⟩
 ·rw[if_neg h1] at ha
  by_cases h2:b.toNat=0
  ·by_cases h3:1 < n
   ·have e:nxt b n=2:=qt6b.2 (.inr ⟨h2,h3⟩)
    rw[e];clear e
    rw[h2] at ha
    rw[h2]
    have h4:decide ((1:Int) < (n:Int))=true:=by simp;omega
    go_enter Tryz.func209,Tryz.ntmps209
    go_wp2
    go_ret
    exact⟨rfl,rfl⟩
   ·have e:nxt b n=1:=qicf.2 ⟨by omega,.inr (by omega)⟩
    rw[e];clear e
    rw[h2] at ha
    rw[h2]
    have h4:decide ((1:Int) < (n:Int))=false:=by simp;omega
    go_enter Tryz.func209,Tryz.ntmps209
    go_wp2
    go_ret
    exact⟨rfl,rfl⟩
  ·have e:nxt b n=1:=qicf.2 ⟨by omega,.inl (by omega)⟩
   rw[e];clear e
   have h4:((b.toNat:Int)==0)=false:=by simp;omega
   go_enter Tryz.func209,Tryz.ntmps209
   go_wp2
   go_ret
   exact⟨rfl,rfl⟩
def qxoj(b v n st:Nat):Array Value:=#[.pointer (some ⟨b,0,none⟩),.int .i64 v,.int .i64 n,.int .i64 st]
def Rd(w:World)(b v n st:Nat):Prop:=w.heap[b]? = some (.cells (qxoj b v n st) 195 (0,0))
section
variable{w w':World}{b v n st:Nat}
theorem Rd.lt(h:Rd w b v n st):b < w.heap.size:=lt_of_block h
theorem Rd.cell(h:Rd w b v n st)(j:Nat):w.cell? ⟨b,j,none⟩=(qxoj b v n st)[j]? := cell_of_row w b j _ _ (0,0) h
theorem Rd.c0(h:Rd w b v n st):w.cell? ⟨b,0,none⟩=some (.pointer (some ⟨b,0,none⟩)):=h.cell 0
theorem Rd.c1(h:Rd w b v n st):w.cell? ⟨b,1,none⟩=some (.int .i64 v):=h.cell 1
theorem Rd.c2(h:Rd w b v n st):w.cell? ⟨b,2,none⟩=some (.int .i64 n):=h.cell 2
theorem Rd.c3(h:Rd w b v n st):w.cell? ⟨b,3,none⟩=some (.int .i64 st):=h.cell 3
theorem Rd.fr(h:Rd w b v n st)(j:Nat):w.frozen? ⟨b,j,none⟩=false:=by unfold Rd at h;simp[World.frozen?,h]
theorem Rd.draws(h:Rd w b v n st)(k:Nat):Rd (w.drewN k) b v n st:=h
theorem Rd.drew(h:Rd w b v n st):Rd w.drew b v n st:=h
theorem Rd.of_block(h:Rd w b v n st)(hb:w'.heap[b]? = w.heap[b]?):Rd w' b v n st:=hb.trans h
theorem Rd.val(h:Rd w b v n st)(u:Nat):Rd (w.setCell ⟨b,1,none⟩ (.int .i64 u)) b u n st:=qlvy h 1 _
theorem Rd.siz(h:Rd w b v n st)(u:Nat):Rd (w.setCell ⟨b,2,none⟩ (.int .i64 u)) b v u st:=qlvy h 2 _
theorem Rd.sta(h:Rd w b v n st)(u:Nat):Rd (w.setCell ⟨b,3,none⟩ (.int .i64 u)) b v n u:=qlvy h 3 _
end
theorem qp2k:∃j,Tryz.prog.info? 195=some j:=Option.isSome_iff_exists.1 (by kernel_rfl)
theorem quhv{w:World}{b v n st:Nat}(hc:Rd w b v n st) :
 Calls Tryz.prog 208 #[.pointer (some ⟨b,0,none⟩)] w fun e w'=>e = .returned (.bool true)∧w=w':=by
 obtain⟨j,hj⟩:=qp2k
 have heq:=fun W:World=>run_eql_ptr_same (P:=Tryz.prog) W ⟨b,0,none⟩ Tryz.underlying189 hj
 have h0:=hc.c0
 clear hj
 go_enter Tryz.func208,Tryz.ntmps208
 go_wp2
 go_ret
 exact⟨rfl,rfl⟩
theorem qz5z(w:World) :
 Calls Tryz.prog 182 #[] w fun e w'=>e = .returned (.pointer (some ⟨w.heap.size,0,none⟩))∧Rd w' w.heap.size 0 0 0∧Below w.heap.size w w':=by
 go_enter Tryz.func182,Tryz.ntmps182
 go_wp2
 go_ret
 exact⟨rfl,heap_alloc_new w _,(Below.refl _ _).alloc (Nat.le_refl _) _⟩
theorem qh0o(v n:Nat)(x:UInt8)(hv:v < 128^n)(hn:n < 4):bits .or .i64 (v:Int) (IntKind.i64.wrap ((x.toNat:Int)%128*2^(7*(n:Int)).toNat))=((grow v n x:Nat):Int):=by
 have e1:(7*(n:Int)).toNat=7*n:=by omega
 have e128:(128:Nat)^n=2^(7*n):=by rw[Nat.pow_mul]
 have hp:(2:Nat)^(7*n)≤2^21:=Nat.pow_le_pow_right (by decide) (by omega)
 have hx:x.toNat%128≤127:=by omega
 have hm:x.toNat%128*2^(7*n)≤127*2^21:=Nat.mul_le_mul hx hp
 have e2:(x.toNat:Int)%128*2^(7*n)=((x.toNat%128*2^(7*n):Nat):Int):=by simp
 unfold grow
 rw[e128] at hv ⊢
 rw[e1,e2,IntWalk.i64_in _ (by omega)]
 rw[(bits_nat .i64 28 (by decide) (fun m h0 h1=>IntWalk.i64_in _ (by omega)) v (x.toNat%128*2^(7*n)) (by omega) (by omega)).2]
 congr 1
 rw[Nat.or_comm,Nat.mul_comm,←Nat.two_pow_add_eq_or_of_lt hv (x.toNat%128)]
 omega
theorem qh0d{w:World}{b v n:Nat}(x:UInt8)(hc:Rd w b v n 0)(hv:v < 128^n)(hn:n < 4)(hx:nxt x (n+1)=0) :
 Calls Tryz.prog 183 #[.pointer (some ⟨b,0,none⟩),.int .u8 x.toNat] w fun e w'=>e = .returned (.tuple #[.bool false,.int .i64 0])∧Rd w' b (grow v n x) (n+1) 0∧w.grownBy w' (some b):=by
 have h1:=hc.c1
 have h2:=hc.c2
 have h3:=hc.c3
 have f1:=hc.fr 1
 have f2:=hc.fr 2
 have f3:=hc.fr 3
 have ha:=qbg0 x
 have e1:IntKind.i64.wrap ((x.toNat:Int)%128)=(x.toNat:Int)%128:=IntWalk.i64_in _ (by omega)
 have e2:IntKind.i64.wrap (7*(n:Int))=7*(n:Int):=IntWalk.i64_in _ (by omega)
 have e3:(0:Int)≤7*(n:Int):=by omega
 have e4:=qh0o v n x hv hn
 have NX:=Lib.hid (show ∀W,Calls Tryz.prog 209 #[.int .u8 x.toNat,.int .i64 ((n:Int)+1)] W fun e w'=>e = .returned (.int .i64 0)∧W=w' from fun W=>by
  have h:=qnz1 x (n+1) W
  rw[hx] at h
  exact h)
 clear hx
 generalize grow v n x=u at e4
 go_enter Tryz.func183,Tryz.ntmps183
 go_wp2_with (go_at_call 208;refine(quhv hc).mono ?_;rintro e' w' ⟨rfl,rfl⟩)
 go_still_tail 16,(by kernel_rfl)
 change wpList _ _ _ _ _ w.drew
 have hd:Rd w.drew b v n 0:=hc.drew
 have hg:w.grownBy w.drew (some b):=⟨rfl,rfl,rfl,Nat.le_refl _,fun _ _ _=>rfl⟩
 generalize w.drew=W at hd hg
 clear h1 h2 h3 f1 f2 f3
 have h1:=hd.c1
 have h2:=hd.c2
 have h3:=hd.c3
 have f1:=hd.fr 1
 have f2:=hd.fr 2
 have f3:=hd.fr 3
 go_wp2_with (go_at_call 209;refine(NX.out _).mono ?_;rintro e' w' ⟨rfl,rfl⟩)
 go_ret2
 exact⟨rfl,((hd.val u).siz (n+1)).sta 0,qo6d hg (qo6d (qo6d (q99v _ _ _ _) (q99v _ _ _ _)) (q99v _ _ _ _))⟩
theorem qhre{w:World}{b v n:Nat}(x:UInt8)(hc:Rd w b v n 0)(hv:v < 128^n)(hn:n < 4)(hx:nxt x (n+1)=1) :
 Calls Tryz.prog 183 #[.pointer (some ⟨b,0,none⟩),.int .u8 x.toNat] w fun e w'=>e = .returned (.tuple #[.bool true,.int .i64 0])∧Rd w' b (grow v n x) (n+1) 1∧w.grownBy w' (some b):=by
 have h1:=hc.c1
 have h2:=hc.c2
 have h3:=hc.c3
 have f1:=hc.fr 1
 have f2:=hc.fr 2
 have f3:=hc.fr 3
 have ha:=qbg0 x
 have e1:IntKind.i64.wrap ((x.toNat:Int)%128)=(x.toNat:Int)%128:=IntWalk.i64_in _ (by omega)
 have e2:IntKind.i64.wrap (7*(n:Int))=7*(n:Int):=IntWalk.i64_in _ (by omega)
 have e3:(0:Int)≤7*(n:Int):=by omega
 have e4:=qh0o v n x hv hn
 have NX:=Lib.hid (show ∀W,Calls Tryz.prog 209 #[.int .u8 x.toNat,.int .i64 ((n:Int)+1)] W fun e w'=>e = .returned (.int .i64 1)∧W=w' from fun W=>by
  have h:=qnz1 x (n+1) W
  rw[hx] at h
  exact h)
 clear hx
 generalize grow v n x=u at e4
 go_enter Tryz.func183,Tryz.ntmps183
 go_wp2_with (go_at_call 208;refine(quhv hc).mono ?_;rintro e' w' ⟨rfl,rfl⟩)
 go_still_tail 16,(by kernel_rfl)
 change wpList _ _ _ _ _ w.drew
 have hd:Rd w.drew b v n 0:=hc.drew
 have hg:w.grownBy w.drew (some b):=⟨rfl,rfl,rfl,Nat.le_refl _,fun _ _ _=>rfl⟩
 generalize w.drew=W at hd hg
 clear h1 h2 h3 f1 f2 f3
 have h1:=hd.c1
 have h2:=hd.c2
 have h3:=hd.c3
 have f1:=hd.fr 1
 have f2:=hd.fr 2
 have f3:=hd.fr 3
 go_wp2_with (go_at_call 209;refine(NX.out _).mono ?_;rintro e' w' ⟨rfl,rfl⟩)
 go_ret2
 exact⟨rfl,((hd.val u).siz (n+1)).sta 1,qo6d hg (qo6d (qo6d (q99v _ _ _ _) (q99v _ _ _ _)) (q99v _ _ _ _))⟩
theorem qdxq{w:World}{b v n:Nat}(x:UInt8)(hc:Rd w b v n 0)(hv:v < 128^n)(hn:n < 4)(hx:nxt x (n+1)=2) :
 Calls Tryz.prog 183 #[.pointer (some ⟨b,0,none⟩),.int .u8 x.toNat] w fun e w'=>e = .returned (.tuple #[.bool false,.int .i64 5])∧Rd w' b (grow v n x) (n+1) 2∧w.grownBy w' (some b):=by
 have h1:=hc.c1
 have h2:=hc.c2
 have h3:=hc.c3
 have f1:=hc.fr 1
 have f2:=hc.fr 2
 have f3:=hc.fr 3
 have ha:=qbg0 x
 have e1:IntKind.i64.wrap ((x.toNat:Int)%128)=(x.toNat:Int)%128:=IntWalk.i64_in _ (by omega)
 have e2:IntKind.i64.wrap (7*(n:Int))=7*(n:Int):=IntWalk.i64_in _ (by omega)
 have e3:(0:Int)≤7*(n:Int):=by omega
 have e4:=qh0o v n x hv hn
 have NX:=Lib.hid (show ∀W,Calls Tryz.prog 209 #[.int .u8 x.toNat,.int .i64 ((n:Int)+1)] W fun e w'=>e = .returned (.int .i64 2)∧W=w' from fun W=>by
  have h:=qnz1 x (n+1) W
  rw[hx] at h
  exact h)
 clear hx
 generalize grow v n x=u at e4
 go_enter Tryz.func183,Tryz.ntmps183
 go_wp2_with (go_at_call 208;refine(quhv hc).mono ?_;rintro e' w' ⟨rfl,rfl⟩)
 go_still_tail 16,(by kernel_rfl)
 change wpList _ _ _ _ _ w.drew
 have hd:Rd w.drew b v n 0:=hc.drew
 have hg:w.grownBy w.drew (some b):=⟨rfl,rfl,rfl,Nat.le_refl _,fun _ _ _=>rfl⟩
 generalize w.drew=W at hd hg
 clear h1 h2 h3 f1 f2 f3
 have h1:=hd.c1
 have h2:=hd.c2
 have h3:=hd.c3
 have f1:=hd.fr 1
 have f2:=hd.fr 2
 have f3:=hd.fr 3
 go_wp2_with (go_at_call 209;refine(NX.out _).mono ?_;rintro e' w' ⟨rfl,rfl⟩)
 go_ret2
 exact⟨rfl,((hd.val u).siz (n+1)).sta 2,qo6d hg (qo6d (qo6d (q99v _ _ _ _) (q99v _ _ _ _)) (q99v _ _ _ _))⟩
theorem qe0g(s:ByteArray)(k:Nat)(h:k < s.size):s.data.toList.drop k=s[k]::s.data.toList.drop (k+1):=by
 rw[List.drop_eq_getElem_cons (by simpa using h)];rfl
theorem qhwc(s:ByteArray):s.data.toList.drop s.size=[]:=List.drop_of_length_le (by simp)
def q51h(l:List UInt8):Ending := .returned (.tuple #[.int .i64 (rdV l),.int .i64 (rdN l),.int .i64 (rdE l)])
theorem qxud{l:List UInt8}{v n st:Nat}{a b c:Int}(h:run 0 0 l=(v,n,st))(ha:((if st=1 then v else 0:Nat):Int)=a)(hb:((if st=1 then n else 0:Nat):Int)=b)
 (hc:((if st=0 then 3 else if st=1 then 0 else 5:Nat):Int)=c):Ending.returned (.tuple #[.int .i64 a,.int .i64 b,.int .i64 c])=q51h l:=by
 obtain⟨h1,h2,h3⟩:=qa1w h
 rw[←ha,←hb,←hc,←h1,←h2,←h3];rfl
def qxfh(l:List UInt8)(w:World)(e:Ending)(w':World):Prop:=e=q51h l∧Below w.heap.size w w'
def q905(w:World)(l:List UInt8)(k:Nat)(wr:World):Prop:=∃v,k < 4∧v < 128^k∧Rd wr w.heap.size v k 0∧Below w.heap.size w wr∧run 0 0 l=run v k (l.drop k)
theorem q58y{w wr w1:World}(hb:Below w.heap.size w wr)(hg:wr.grownBy w1 (some w.heap.size)):Below w.heap.size w w1:=
 hb.grown hg hb.size (fun k hk=>by cases hk;exact Nat.le_refl _)
theorem q6w6(s:ByteArray)(w:World)(_hm:s.size≤9223372036854775807) :
 Calls Tryz.prog 155 #[.string s] w (qxfh s.data.toList w):=by
 go_enter Tryz.func155,Tryz.ntmps155
 go_wp2_with fail
 refine(qz5z _).mono ?_
 rintro e w1 ⟨rfl,hr,hb⟩
 have H:=Lib.hid (show q905 w s.data.toList 0 w1 from⟨0,by decide,by decide,hr,hb,rfl⟩)
 clear hr hb
 go_wp2_with fail
 go_loopw [12] (fun i wr=>∃k:Nat,k≤s.size∧i = .int .i64 k∧q905 w s.data.toList k wr) (fun i _=>s.size - (intOf i).toNat)
 case atStart=>exact⟨0,Nat.zero_le _,rfl,H.out⟩
 case round=>
  obtain⟨k,hk,rfl,v,hk4,hv,hr,hb,hrun⟩:=hrel
  clear H
  by_cases hlt:k < s.size
  ·have hd:=qe0g s k hlt
   have RUN:=Lib.hid hrun
   have D:=Lib.hid hd
   clear hrun hd
   rcases qlf0 s[k] (k+1) with hx | hx | hx
   ·have NX:=Lib.hid hx
    clear hx
    go_wp2_with fail
    refine(qh0d s[k] hr hv hk4 NX.out).mono ?_
    rintro e w2 ⟨rfl,hr2,hg⟩
    have hb2:=q58y hb hg
    go_wp2_with fail
    go_roundw
    case rel=>
     have h4:=(qv8z.1 NX.out).2
     refine⟨k+1,by omega,by go_num,_,by omega,qpfr _ hv,hr2,hb2,?_⟩
     rw[RUN.out,D.out,qomx _ NX.out]
    case measure=>simp[intOf];omega
   ·have NX:=Lib.hid hx
    clear hx
    go_wp2_with fail
    refine(qhre s[k] hr hv hk4 NX.out).mono ?_
    rintro e w2 ⟨rfl,hr2,hg⟩
    have hb2:=q58y hb hg
    have RR:=Lib.hid (qxud (l:=s.data.toList) (v:=grow v k s[k]) (n:=k+1) (st:=1) (by rw[RUN.out,D.out,q408 _ (by rw[NX.out];decide),NX.out]) rfl rfl rfl)
    have h1:=hr2.c1
    have h2:=hr2.c2
    go_wp2_with fail
    go_quiet (fail)
    go_wp2
    go_ret3
    exact⟨RR.out,qnpu hb2 _⟩
   ·have NX:=Lib.hid hx
    clear hx
    go_wp2_with fail
    refine(qdxq s[k] hr hv hk4 NX.out).mono ?_
    rintro e w2 ⟨rfl,hr2,hg⟩
    have hb2:=q58y hb hg
    have RR:=Lib.hid (qxud (l:=s.data.toList) (v:=grow v k s[k]) (n:=k+1) (st:=2) (by rw[RUN.out,D.out,q408 _ (by rw[NX.out];decide),NX.out]) rfl rfl rfl)
    go_wp2_with fail
    go_ret3
    exact⟨RR.out,hb2⟩
  ·obtain rfl:k=s.size:=by omega
   have RR:=Lib.hid (qxud (l:=s.data.toList) (v:=v) (n:=s.size) (st:=0) (by rw[hrun,qhwc];rfl) rfl rfl rfl)
   clear hrun
   go_wp2
   go_ret3
   exact⟨RR.out,hb⟩
theorem qa3p(W:World):PkAt W Pk.zero adZ:=⟨fun e=>absurd rfl e,fun e=>absurd rfl e,fun e=>absurd rfl e,fun e=>absurd rfl e⟩
theorem q8eh(A B:Option Addr)(na nb c d:Nat)(l m:List Pr)(w:World)(hA:PL w A l)(hB:PL w B m)(hla:l.length=na)(hlb:m.length=nb)(hN:na≤70000)(hM:nb≤70000) :
 Calls Tryz.prog 99 #[.slice A na c,.slice B nb d] w fun e w'=>e = .returned (.bool (decide (l=m)))∧∃k,w'=w.drewN k:=by
 by_cases hn:na=nb
 ·subst hn
  obtain⟨D,hD⟩:∃D,decide (l=m)=D:=⟨_,rfl⟩
  rw[hD]
  have HD:=Lib.hid hD
  have HA:=Lib.hid hA
  have HB:=Lib.hid hB
  have HLA:=Lib.hid hla
  have HLB:=Lib.hid hlb
  have q0:(na:Int)≤70000:=by omega
  clear hA hB hla hlb hN hM hD
  go_enter Tryz.func99,Tryz.ntmps99
  go_wp2_with fail
  go_loopg [5] na (fun gk i wr=>∃k x:Nat,k≤na∧gk=na - k∧i = .int .i64 (k:Int)∧wr=w.drewN x∧∀j p q,j < k→l[j]? = some p→m[j]? = some q→p=q)
  case atStart=>exact⟨0,0,Nat.zero_le _,rfl,rfl,rfl,fun j p q h=>by omega⟩
  case round=>
   obtain⟨k,x,hk,rfl,rfl,rfl,hS⟩:=hrel
   have HS:=Lib.hid hS
   by_cases hlt:k < na
   ·have hkl:k < l.length:=by rw[HLA.out];exact hlt
    have hkm:k < m.length:=by rw[HLB.out];exact hlt
    obtain⟨p,hp⟩:∃p,l[k]? = some p:=⟨_,List.getElem?_eq_getElem hkl⟩
    obtain⟨q,hq⟩:∃q,m[k]? = some q:=⟨_,List.getElem?_eq_getElem hkm⟩
    obtain⟨ga,ia,rfl,_,a0,a1,a2,a3⟩:=HA.out.at hp
    obtain⟨gb,ib,rfl,_,b0,b1,b2,b3⟩:=HB.out.at hq
    have HP:=Lib.hid hp
    have HQ:=Lib.hid hq
    have HL:=Lib.hid hlt
    have g1:(k:Int) < (na:Int):=by omega
    have hno:p≠q→D=false:=fun h=>by
     rw[←HD.out]
     exact decide_eq_false fun e=>h (by subst e;exact Option.some.inj (HP.out.symm.trans HQ.out))
    have HNO:=Lib.hid hno
    clear hS hkl hkm hp hq hlt hk hno
    rcases qzlf p q with h | h | ⟨h1,h2⟩ | ⟨h1,h2,h3⟩ | ⟨h1,h2,h3,h4⟩
    ·subst h
     generalize p.id=x0 at a0 b0
     generalize ((p.n:Nat):Int)=x1 at a1 b1
     generalize bs p.text=x2 at a2 b2
     generalize bs p.value=x3 at a3 b3
     go_wp2_with fail
     go_quiet (fail)
     go_wp2_with fail
     go_roundg (na - (k+1))
     case measure=>have:=HL.out;omega
     case rel=>
      refine⟨k+1,_,by have:=HL.out;omega,rfl,by go_num,rfl,fun j u v hj hu hv=>?_⟩
      by_cases hjk:j=k
      ·subst hjk
       exact Option.some.inj ((hu.symm.trans HP.out).trans (HQ.out.symm.trans hv))
      ·exact HS.out j u v (by omega) hu hv
    ·have hD:=HNO.out (fun e=>by rw[e] at h;simp at h)
     subst hD
     generalize p.id=x0 at *
     generalize ((p.n:Nat):Int)=x1 at *
     generalize bs p.text=x2 at *
     generalize bs p.value=x3 at *
     generalize q.id=y0 at *
     generalize ((q.n:Nat):Int)=y1 at *
     generalize bs q.text=y2 at *
     generalize bs q.value=y3 at *
     go_wp2_with fail
     go_quiet (fail)
     go_wp2_with fail
     go_ret
     exact⟨rfl,_,qgiq _ _ _⟩
    ·have hD:=HNO.out (fun e=>by rw[e] at h2;simp at h2)
     subst hD
     rw[h1] at a0
     clear h1
     generalize p.id=x0 at *
     generalize ((p.n:Nat):Int)=x1 at *
     generalize bs p.text=x2 at *
     generalize bs p.value=x3 at *
     generalize q.id=y0 at *
     generalize ((q.n:Nat):Int)=y1 at *
     generalize bs q.text=y2 at *
     generalize bs q.value=y3 at *
     go_wp2_with fail
     go_quiet (fail)
     go_wp2_with fail
     go_ret
     exact⟨rfl,_,qgiq _ _ _⟩
    ·have hD:=HNO.out (fun e=>by rw[e] at h3;simp at h3)
     subst hD
     rw[h1] at a0
     rw[h2] at a1
     clear h1 h2
     generalize p.id=x0 at *
     generalize ((p.n:Nat):Int)=x1 at *
     generalize bs p.text=x2 at *
     generalize bs p.value=x3 at *
     generalize q.id=y0 at *
     generalize ((q.n:Nat):Int)=y1 at *
     generalize bs q.text=y2 at *
     generalize bs q.value=y3 at *
     go_wp2_with fail
     go_quiet (fail)
     go_wp2_with fail
     go_ret
     exact⟨rfl,_,qgiq _ _ _⟩
    ·have hD:=HNO.out (fun e=>by rw[e] at h4;simp at h4)
     subst hD
     rw[h1] at a0
     rw[h2] at a1
     rw[h3] at a2
     clear h1 h2 h3
     generalize p.id=x0 at *
     generalize ((p.n:Nat):Int)=x1 at *
     generalize bs p.text=x2 at *
     generalize bs p.value=x3 at *
     generalize q.id=y0 at *
     generalize ((q.n:Nat):Int)=y1 at *
     generalize bs q.text=y2 at *
     generalize bs q.value=y3 at *
     go_wp2_with fail
     go_quiet (fail)
     go_wp2_with fail
     go_ret
     exact⟨rfl,_,qgiq _ _ _⟩
   ·obtain rfl:k=na:=by omega
    have hD:D=true:=by rw[←HD.out];exact decide_eq_true (qs8g HLA.out HLB.out hS)
    subst hD
    clear hS hlt hk
    go_wp2_with fail
    go_ret
    exact⟨rfl,_,rfl⟩
 ·have hD:decide (l=m)=false:=decide_eq_false fun e=>hn (by rw[←hla,←hlb,e])
  have q0:((na:Int) != (nb:Int))=true:=by rw[bne_iff_ne];omega
  rw[hD]
  clear hA hB hla hlb hN hM hD hn
  go_enter Tryz.func99,Tryz.ntmps99
  go_wp2_with fail
  go_ret
  exact⟨rfl,0,rfl⟩
theorem qjlq(A B:Option Addr)(na nb c d:Nat)(l m:List Int)(w:World)(hA:CL w A (ics l))(hB:CL w B (ics m))(hla:l.length=na)(hlb:m.length=nb)(hN:na≤70000)(hM:nb≤70000) :
 Calls Tryz.prog 100 #[.slice A na c,.slice B nb d] w fun e w'=>e = .returned (.bool (decide (l=m)))∧∃k,w'=w.drewN k:=by
 by_cases hn:na=nb
 ·subst hn
  obtain⟨D,hD⟩:∃D,decide (l=m)=D:=⟨_,rfl⟩
  rw[hD]
  have HD:=Lib.hid hD
  have HA:=Lib.hid hA
  have HB:=Lib.hid hB
  have HLA:=Lib.hid hla
  have HLB:=Lib.hid hlb
  have q0:(na:Int)≤70000:=by omega
  clear hA hB hla hlb hN hM hD
  go_enter Tryz.func100,Tryz.ntmps100
  go_wp2_with fail
  go_loopg [5] na (fun gk i wr=>∃k x:Nat,k≤na∧gk=na - k∧i = .int .i64 (k:Int)∧wr=w.drewN x∧∀j p q,j < k→l[j]? = some p→m[j]? = some q→p=q)
  case atStart=>exact⟨0,0,Nat.zero_le _,rfl,rfl,rfl,fun j p q h=>by omega⟩
  case round=>
   obtain⟨k,x,hk,rfl,rfl,rfl,hS⟩:=hrel
   have HS:=Lib.hid hS
   by_cases hlt:k < na
   ·have hkl:k < l.length:=by rw[HLA.out];exact hlt
    have hkm:k < m.length:=by rw[HLB.out];exact hlt
    obtain⟨p,hp⟩:∃p,l[k]? = some p:=⟨_,List.getElem?_eq_getElem hkl⟩
    obtain⟨q,hq⟩:∃q,m[k]? = some q:=⟨_,List.getElem?_eq_getElem hkm⟩
    obtain⟨ga,ia,rfl,_,a0⟩:=HA.out.int hp
    obtain⟨gb,ib,rfl,_,b0⟩:=HB.out.int hq
    have HP:=Lib.hid hp
    have HQ:=Lib.hid hq
    have HL:=Lib.hid hlt
    have g1:(k:Int) < (na:Int):=by omega
    have hno:p≠q→D=false:=fun h=>by
     rw[←HD.out]
     exact decide_eq_false fun e=>h (by subst e;exact Option.some.inj (HP.out.symm.trans HQ.out))
    have HNO:=Lib.hid hno
    clear hS hkl hkm hp hq hlt hk hno
    rcases qd1x p q with h | h
    ·subst h
     go_wp2_with fail
     go_quiet (fail)
     go_wp2_with fail
     go_roundg (na - (k+1))
     case measure=>have:=HL.out;omega
     case rel=>
      refine⟨k+1,_,by have:=HL.out;omega,rfl,by go_num,rfl,fun j u v hj hu hv=>?_⟩
      by_cases hjk:j=k
      ·subst hjk
       exact Option.some.inj ((hu.symm.trans HP.out).trans (HQ.out.symm.trans hv))
      ·exact HS.out j u v (by omega) hu hv
    ·have hD:=HNO.out (fun e=>by rw[e] at h;simp at h)
     subst hD
     go_wp2_with fail
     go_quiet (fail)
     go_wp2_with fail
     go_ret
     exact⟨rfl,_,qgiq _ _ _⟩
   ·obtain rfl:k=na:=by omega
    have hD:D=true:=by rw[←HD.out];exact decide_eq_true (qs8g HLA.out HLB.out hS)
    subst hD
    clear hS hlt hk
    go_wp2_with fail
    go_ret
    exact⟨rfl,_,rfl⟩
 ·have hD:decide (l=m)=false:=decide_eq_false fun e=>hn (by rw[←hla,←hlb,e])
  have q0:((na:Int) != (nb:Int))=true:=by rw[bne_iff_ne];omega
  rw[hD]
  clear hA hB hla hlb hN hM hD hn
  go_enter Tryz.func100,Tryz.ntmps100
  go_wp2_with fail
  go_ret
  exact⟨rfl,0,rfl⟩
theorem qogp(A B:Option Addr)(na nb c d:Nat)(l m:List Fi)(w:World)(hA:CL w A (fcs l))(hB:CL w B (fcs m))(hla:l.length=na)(hlb:m.length=nb)(hN:na≤70000)(hM:nb≤70000) :
 Calls Tryz.prog 101 #[.slice A na c,.slice B nb d] w fun e w'=>e = .returned (.bool (decide (l=m)))∧∃k,w'=w.drewN k:=by
 by_cases hn:na=nb
 ·subst hn
  obtain⟨D,hD⟩:∃D,decide (l=m)=D:=⟨_,rfl⟩
  rw[hD]
  have HD:=Lib.hid hD
  have HA:=Lib.hid hA
  have HB:=Lib.hid hB
  have HLA:=Lib.hid hla
  have HLB:=Lib.hid hlb
  have q0:(na:Int)≤70000:=by omega
  clear hA hB hla hlb hN hM hD
  go_enter Tryz.func101,Tryz.ntmps101
  go_wp2_with fail
  go_loopg [5] na (fun gk i wr=>∃k x:Nat,k≤na∧gk=na - k∧i = .int .i64 (k:Int)∧wr=w.drewN x∧∀j p q,j < k→l[j]? = some p→m[j]? = some q→p=q)
  case atStart=>exact⟨0,0,Nat.zero_le _,rfl,rfl,rfl,fun j p q h=>by omega⟩
  case round=>
   obtain⟨k,x,hk,rfl,rfl,rfl,hS⟩:=hrel
   have HS:=Lib.hid hS
   by_cases hlt:k < na
   ·have hkl:k < l.length:=by rw[HLA.out];exact hlt
    have hkm:k < m.length:=by rw[HLB.out];exact hlt
    obtain⟨p,hp⟩:∃p,l[k]? = some p:=⟨_,List.getElem?_eq_getElem hkl⟩
    obtain⟨q,hq⟩:∃q,m[k]? = some q:=⟨_,List.getElem?_eq_getElem hkm⟩
    obtain⟨ga,ia,rfl,_,a0,a1,a2,a3,a4⟩:=HA.out.fi hp
    obtain⟨gb,ib,rfl,_,b0,b1,b2,b3,b4⟩:=HB.out.fi hq
    have HP:=Lib.hid hp
    have HQ:=Lib.hid hq
    have HL:=Lib.hid hlt
    have g1:(k:Int) < (na:Int):=by omega
    have hno:p≠q→D=false:=fun h=>by
     rw[←HD.out]
     exact decide_eq_false fun e=>h (by subst e;exact Option.some.inj (HP.out.symm.trans HQ.out))
    have HNO:=Lib.hid hno
    clear hS hkl hkm hp hq hlt hk hno
    rcases qpuj p q with h | h | ⟨h1,h2⟩ | ⟨h1,h2,h3⟩ | ⟨h1,h2,h3,h4⟩ | ⟨h1,h2,h3,h4,h5⟩
    ·subst h
     generalize bs p.topic=x0 at a0 b0
     generalize p.qos=x1 at a1 b1
     generalize p.noLocal=x2 at a2 b2
     generalize p.asPub=x3 at a3 b3
     generalize p.handling=x4 at a4 b4
     go_wp2_with fail
     go_quiet (fail)
     go_wp2_with fail
     go_roundg (na - (k+1))
     case measure=>have:=HL.out;omega
     case rel=>
      refine⟨k+1,_,by have:=HL.out;omega,rfl,by go_num,rfl,fun j u v hj hu hv=>?_⟩
      by_cases hjk:j=k
      ·subst hjk
       exact Option.some.inj ((hu.symm.trans HP.out).trans (HQ.out.symm.trans hv))
      ·exact HS.out j u v (by omega) hu hv
    ·have hD:=HNO.out (fun e=>by rw[e] at h;simp at h)
     subst hD
     generalize bs p.topic=x0 at *
     generalize p.qos=x1 at *
     generalize p.noLocal=x2 at *
     generalize p.asPub=x3 at *
     generalize p.handling=x4 at *
     generalize bs q.topic=y0 at *
     generalize q.qos=y1 at *
     generalize q.noLocal=y2 at *
     generalize q.asPub=y3 at *
     generalize q.handling=y4 at *
     go_wp2_with fail
     go_quiet (fail)
     go_wp2_with fail
     go_ret
     exact⟨rfl,_,qgiq _ _ _⟩
    ·have hD:=HNO.out (fun e=>by rw[e] at h2;simp at h2)
     subst hD
     rw[h1] at a0
     clear h1
     generalize bs p.topic=x0 at *
     generalize p.qos=x1 at *
     generalize p.noLocal=x2 at *
     generalize p.asPub=x3 at *
     generalize p.handling=x4 at *
     generalize bs q.topic=y0 at *
     generalize q.qos=y1 at *
     generalize q.noLocal=y2 at *
     generalize q.asPub=y3 at *
     generalize q.handling=y4 at *
     go_wp2_with fail
     go_quiet (fail)
     go_wp2_with fail
     go_ret
     exact⟨rfl,_,qgiq _ _ _⟩
    ·have hD:=HNO.out (fun e=>by rw[e] at h3;simp at h3)
     subst hD
     rw[h1] at a0
     rw[h2] at a1
     clear h1 h2
     generalize bs p.topic=x0 at *
     generalize p.qos=x1 at *
     generalize p.noLocal=x2 at *
     generalize p.asPub=x3 at *
     generalize p.handling=x4 at *
     generalize bs q.topic=y0 at *
     generalize q.qos=y1 at *
     generalize q.noLocal=y2 at *
     generalize q.asPub=y3 at *
     generalize q.handling=y4 at *
     go_wp2_with fail
     go_quiet (fail)
     go_wp2_with fail
     go_ret
     exact⟨rfl,_,qgiq _ _ _⟩
    ·have hD:=HNO.out (fun e=>by rw[e] at h4;simp at h4)
     subst hD
     rw[h1] at a0
     rw[h2] at a1
     rw[h3] at a2
     clear h1 h2 h3
     generalize bs p.topic=x0 at *
     generalize p.qos=x1 at *
     generalize p.noLocal=x2 at *
     generalize p.asPub=x3 at *
     generalize p.handling=x4 at *
     generalize bs q.topic=y0 at *
     generalize q.qos=y1 at *
     generalize q.noLocal=y2 at *
     generalize q.asPub=y3 at *
     generalize q.handling=y4 at *
     go_wp2_with fail
     go_quiet (fail)
     go_wp2_with fail
     go_ret
     exact⟨rfl,_,qgiq _ _ _⟩
    ·have hD:=HNO.out (fun e=>by rw[e] at h5;simp at h5)
     subst hD
     rw[h1] at a0
     rw[h2] at a1
     rw[h3] at a2
     rw[h4] at a3
     clear h1 h2 h3 h4
     generalize bs p.topic=x0 at *
     generalize p.qos=x1 at *
     generalize p.noLocal=x2 at *
     generalize p.asPub=x3 at *
     generalize p.handling=x4 at *
     generalize bs q.topic=y0 at *
     generalize q.qos=y1 at *
     generalize q.noLocal=y2 at *
     generalize q.asPub=y3 at *
     generalize q.handling=y4 at *
     go_wp2_with fail
     go_quiet (fail)
     go_wp2_with fail
     go_ret
     exact⟨rfl,_,qgiq _ _ _⟩
   ·obtain rfl:k=na:=by omega
    have hD:D=true:=by rw[←HD.out];exact decide_eq_true (qs8g HLA.out HLB.out hS)
    subst hD
    clear hS hlt hk
    go_wp2_with fail
    go_ret
    exact⟨rfl,_,rfl⟩
 ·have hD:decide (l=m)=false:=decide_eq_false fun e=>hn (by rw[←hla,←hlb,e])
  have q0:((na:Int) != (nb:Int))=true:=by rw[bne_iff_ne];omega
  rw[hD]
  clear hA hB hla hlb hN hM hD hn
  go_enter Tryz.func101,Tryz.ntmps101
  go_wp2_with fail
  go_ret
  exact⟨rfl,0,rfl⟩
theorem qvd7(n:Int)(w:World) :
 Calls Tryz.prog 170 #[.int .i64 n] w fun e w'=>e = .returned (.int .i64 (sz n))∧w=w':=by
 by_cases h1:n < 0
 ·rw[qbck.2 (.inl h1)]
  have hd:decide (n < 0)=true:=by simpa using h1
  go_enter Tryz.func170,Tryz.ntmps170
  go_wp2
  go_ret
  exact⟨rfl,rfl⟩
 have hd:decide (n < 0)=false:=by simpa using h1
 by_cases h2:268435455 < n
 ·rw[qbck.2 (.inr h2)]
  have hd2:decide (268435455 < n)=true:=by simpa using h2
  go_enter Tryz.func170,Tryz.ntmps170
  go_wp2
  go_ret
  exact⟨rfl,rfl⟩
 have hd2:decide (268435455 < n)=false:=by simpa using h2
 have h0:¬(n < 0∨268435455 < n):=by omega
 by_cases h3:n < 128
 ·have e:sz n=1:=by unfold sz;rw[if_neg h0,if_pos h3]
  rw[e];clear e h0 h1 h2
  have hd3:decide (n < 128)=true:=by simpa using h3
  go_enter Tryz.func170,Tryz.ntmps170
  go_wp2
  go_ret
  exact⟨rfl,rfl⟩
 have hd3:decide (n < 128)=false:=by simpa using h3
 by_cases h4:n < 16384
 ·have e:sz n=2:=by unfold sz;rw[if_neg h0,if_neg h3,if_pos h4]
  rw[e];clear e h0 h1 h2
  have hd4:decide (n < 16384)=true:=by simpa using h4
  go_enter Tryz.func170,Tryz.ntmps170
  go_wp2
  go_ret
  exact⟨rfl,rfl⟩
 have hd4:decide (n < 16384)=false:=by simpa using h4
 by_cases h5:n < 2097152
 ·have e:sz n=3:=by unfold sz;rw[if_neg h0,if_neg h3,if_neg h4,if_pos h5]
  rw[e];clear e h0 h1 h2
  have hd5:decide (n < 2097152)=true:=by simpa using h5
  go_enter Tryz.func170,Tryz.ntmps170
  go_wp2
  go_ret
  exact⟨rfl,rfl⟩
 ·have e:sz n=4:=by unfold sz;rw[if_neg h0,if_neg h3,if_neg h4,if_neg h5]
  rw[e];clear e h0 h1 h2
  have hd5:decide (n < 2097152)=false:=by simpa using h5
  go_enter Tryz.func170,Tryz.ntmps170
  go_wp2
  go_ret
  exact⟨rfl,rfl⟩
def qwlf(l:List UInt8)(w:World)(e:Ending)(w':World):Prop:=e=q51h l∧w=w'
def qghk(l:List UInt8)(k v:Nat):Prop:=v < 128^k∧((k < 4∧run 0 0 l=run v k (l.drop k))∨(k=4∧(run 0 0 l).2.2=2))
theorem qtpo(s:ByteArray)(w:World)(hm:s.size≤9223372036854775807) :
 Calls Tryz.prog 141 #[.string s] w (qwlf s.data.toList w):=by
 go_enter Tryz.func141,Tryz.ntmps141
 go_wp2
 go_loop [5,6,7] (fun n t i=>∃k v:Nat,k≤4∧k≤s.size∧n = .int .i64 v∧t = .int .i64 ((128^k:Nat):Int)∧i = .int .i64 k∧qghk s.data.toList k v) (fun _ _ i=>4 - (intOf i).toNat)
 case atStart=>exact⟨0,0,by decide,Nat.zero_le _,rfl,rfl,rfl,by decide,.inl ⟨by decide,rfl⟩⟩
 case round=>
  obtain⟨k,v,hk,hks,rfl,rfl,rfl,hv,hrun⟩:=hrel
  by_cases h4:k=4
  ·subst h4
   have h2:(run 0 0 s.data.toList).2.2=2:=by
    rcases hrun with ⟨h,_⟩ | ⟨_,h⟩
    ·omega
    ·exact h
   have RR:=Lib.hid (qxud (l:=s.data.toList) (st:=2) (a:=0) (b:=0) (c:=5) (by rw[←h2]) rfl rfl rfl)
   clear hrun h2
   go_wp2
   go_ret3
   exact⟨RR.out,rfl⟩
  have hrun0:run 0 0 s.data.toList=run v k (s.data.toList.drop k):=by
   rcases hrun with ⟨_,h⟩ | ⟨h,_⟩
   ·exact h
   ·exact absurd h h4
  clear hrun
  by_cases hlt:k < s.size
  ·have hd:=qe0g s k hlt
   have RUN:=Lib.hid hrun0
   have D:=Lib.hid hd
   clear hrun0 hd
   have hlt256:=s[k].toNat_lt
   obtain rfl | rfl | rfl | rfl:k=0∨k=1∨k=2∨k=3:=by omega
   ·have hv1:(v:Int) < 1:=Int.ofNat_lt.2 (show v < 1 from hv)
    have HV:=Lib.hid hv
    have hne:¬s=ByteArray.empty:=fun e=>by rw[e] at hlt;exact absurd hlt (by decide)
    obtain⟨r,hr⟩:∃r,s[0].toNat=r:=⟨_,rfl⟩
    have h256:(r:Int) < 256:=by omega
    clear hv h4 hlt256
    have e0:((128^0:Nat):Int)=1:=by decide
    rw[e0];clear e0
    by_cases hb:r < 128
    ·have hx:nxt s[0] (0+1)=1:=qicf.2 ⟨by omega,.inr (by decide)⟩
     have hbd:decide ((r:Int) < 128)=true:=decide_eq_true (by omega)
     have RR:=Lib.hid (qxud (l:=s.data.toList) (v:=grow v 0 s[0]) (n:=0+1) (st:=1) (a:=(v:Int)+(r:Int)%128) (b:=1) (c:=0) (by rw[RUN.out,D.out,q408 _ (by rw[hx];decide),hx]) (by simp[grow,hr]) rfl rfl)
     clear hx hb
     go_wp2
     go_ret3
     exact⟨RR.out,rfl⟩
    ·have hbd:decide ((r:Int) < 128)=false:=decide_eq_false (by omega)
     have HB:=Lib.hid (show 128≤s[0].toNat by omega)
     have HG:=Lib.hid (show(v:Int)+(r:Int)%128=(grow v 0 s[0]:Nat) by simp[grow,hr])
     clear hb
     go_wp2
     go_round
     case rel=>exact⟨1,grow v 0 s[0],by decide,by omega,congrArg (Value.int .i64) HG.out,congrArg (Value.int .i64) (by decide),rfl,qpfr _ HV.out,.inl ⟨by decide,by rw[RUN.out,D.out,qomx _ (qv8z.2 ⟨HB.out,by decide⟩)]⟩⟩
     case measure=>simp[intOf]
   ·have hv1:(v:Int) < 128:=Int.ofNat_lt.2 (show v < 128 from hv)
    have HV:=Lib.hid hv
    have hge:decide ((s.size:Int)≤1)=false:=decide_eq_false (by omega)
    obtain⟨r,hr⟩:∃r,s[1].toNat=r:=⟨_,rfl⟩
    have h256:(r:Int) < 256:=by omega
    clear hv h4 hlt256
    have e0:((128^1:Nat):Int)=128:=by decide
    rw[e0];clear e0
    by_cases hb:r < 128
    ·by_cases hz:r=0
     ·subst hz
      have hx:nxt s[1] (1+1)=2:=qt6b.2 (.inr ⟨hr,by decide⟩)
      have RR:=Lib.hid (qxud (l:=s.data.toList) (v:=grow v 1 s[1]) (n:=1+1) (st:=2) (a:=0) (b:=0) (c:=5) (by rw[RUN.out,D.out,q408 _ (by rw[hx];decide),hx]) rfl rfl rfl)
      clear hx hb
      go_wp2
      go_ret3
      exact⟨RR.out,rfl⟩
     ·have hx:nxt s[1] (1+1)=1:=qicf.2 ⟨by omega,.inl (by omega)⟩
      have hzz:((r:Int)==0)=false:=by simp;omega
      have hbd:decide ((r:Int) < 128)=true:=decide_eq_true (by omega)
      have RR:=Lib.hid (qxud (l:=s.data.toList) (v:=grow v 1 s[1]) (n:=1+1) (st:=1) (a:=(v:Int)+(r:Int)%128*128) (b:=2) (c:=0) (by rw[RUN.out,D.out,q408 _ (by rw[hx];decide),hx]) (by simp[grow,hr]) rfl rfl)
      clear hx hb hz
      go_wp2
      go_ret3
      exact⟨RR.out,rfl⟩
    ·have hbd:decide ((r:Int) < 128)=false:=decide_eq_false (by omega)
     have HB:=Lib.hid (show 128≤s[1].toNat by omega)
     have HG:=Lib.hid (show(v:Int)+(r:Int)%128*128=(grow v 1 s[1]:Nat) by simp[grow,hr])
     clear hb
     go_wp2
     go_round
     case rel=>exact⟨2,grow v 1 s[1],by decide,by omega,congrArg (Value.int .i64) HG.out,congrArg (Value.int .i64) (by decide),rfl,qpfr _ HV.out,.inl ⟨by decide,by rw[RUN.out,D.out,qomx _ (qv8z.2 ⟨HB.out,by decide⟩)]⟩⟩
     case measure=>simp[intOf]
   ·have hv1:(v:Int) < 16384:=Int.ofNat_lt.2 (show v < 16384 from hv)
    have HV:=Lib.hid hv
    have hge:decide ((s.size:Int)≤2)=false:=decide_eq_false (by omega)
    obtain⟨r,hr⟩:∃r,s[2].toNat=r:=⟨_,rfl⟩
    have h256:(r:Int) < 256:=by omega
    clear hv h4 hlt256
    have e0:((128^2:Nat):Int)=16384:=by decide
    rw[e0];clear e0
    by_cases hb:r < 128
    ·by_cases hz:r=0
     ·subst hz
      have hx:nxt s[2] (2+1)=2:=qt6b.2 (.inr ⟨hr,by decide⟩)
      have RR:=Lib.hid (qxud (l:=s.data.toList) (v:=grow v 2 s[2]) (n:=2+1) (st:=2) (a:=0) (b:=0) (c:=5) (by rw[RUN.out,D.out,q408 _ (by rw[hx];decide),hx]) rfl rfl rfl)
      clear hx hb
      go_wp2
      go_ret3
      exact⟨RR.out,rfl⟩
     ·have hx:nxt s[2] (2+1)=1:=qicf.2 ⟨by omega,.inl (by omega)⟩
      have hzz:((r:Int)==0)=false:=by simp;omega
      have hbd:decide ((r:Int) < 128)=true:=decide_eq_true (by omega)
      have RR:=Lib.hid (qxud (l:=s.data.toList) (v:=grow v 2 s[2]) (n:=2+1) (st:=1) (a:=(v:Int)+(r:Int)%128*16384) (b:=3) (c:=0) (by rw[RUN.out,D.out,q408 _ (by rw[hx];decide),hx]) (by simp[grow,hr]) rfl rfl)
      clear hx hb hz
      go_wp2
      go_ret3
      exact⟨RR.out,rfl⟩
    ·have hbd:decide ((r:Int) < 128)=false:=decide_eq_false (by omega)
     have HB:=Lib.hid (show 128≤s[2].toNat by omega)
     have HG:=Lib.hid (show(v:Int)+(r:Int)%128*16384=(grow v 2 s[2]:Nat) by simp[grow,hr])
     clear hb
     go_wp2
     go_round
     case rel=>exact⟨3,grow v 2 s[2],by decide,by omega,congrArg (Value.int .i64) HG.out,congrArg (Value.int .i64) (by decide),rfl,qpfr _ HV.out,.inl ⟨by decide,by rw[RUN.out,D.out,qomx _ (qv8z.2 ⟨HB.out,by decide⟩)]⟩⟩
     case measure=>simp[intOf]
   ·have hv1:(v:Int) < 2097152:=Int.ofNat_lt.2 (show v < 2097152 from hv)
    have HV:=Lib.hid hv
    have hge:decide ((s.size:Int)≤3)=false:=decide_eq_false (by omega)
    obtain⟨r,hr⟩:∃r,s[3].toNat=r:=⟨_,rfl⟩
    have h256:(r:Int) < 256:=by omega
    clear hv h4 hlt256
    have e0:((128^3:Nat):Int)=2097152:=by decide
    rw[e0];clear e0
    by_cases hb:r < 128
    ·by_cases hz:r=0
     ·subst hz
      have hx:nxt s[3] (3+1)=2:=qt6b.2 (.inr ⟨hr,by decide⟩)
      have RR:=Lib.hid (qxud (l:=s.data.toList) (v:=grow v 3 s[3]) (n:=3+1) (st:=2) (a:=0) (b:=0) (c:=5) (by rw[RUN.out,D.out,q408 _ (by rw[hx];decide),hx]) rfl rfl rfl)
      clear hx hb
      go_wp2
      go_ret3
      exact⟨RR.out,rfl⟩
     ·have hx:nxt s[3] (3+1)=1:=qicf.2 ⟨by omega,.inl (by omega)⟩
      have hzz:((r:Int)==0)=false:=by simp;omega
      have hbd:decide ((r:Int) < 128)=true:=decide_eq_true (by omega)
      have RR:=Lib.hid (qxud (l:=s.data.toList) (v:=grow v 3 s[3]) (n:=3+1) (st:=1) (a:=(v:Int)+(r:Int)%128*2097152) (b:=4) (c:=0) (by rw[RUN.out,D.out,q408 _ (by rw[hx];decide),hx]) (by simp[grow,hr]) rfl rfl)
      clear hx hb hz
      go_wp2
      go_ret3
      exact⟨RR.out,rfl⟩
    ·have hbd:decide ((r:Int) < 128)=false:=decide_eq_false (by omega)
     have HB:=Lib.hid (show 128≤s[3].toNat by omega)
     have HG:=Lib.hid (show(v:Int)+(r:Int)%128*2097152=(grow v 3 s[3]:Nat) by simp[grow,hr])
     clear hb
     go_wp2
     go_round
     case rel=>exact⟨4,grow v 3 s[3],by decide,by omega,congrArg (Value.int .i64) HG.out,congrArg (Value.int .i64) (by decide),rfl,qpfr _ HV.out,.inr ⟨rfl,by rw[RUN.out,D.out,q408 _ (by rw[qt6b.2 (.inl ⟨HB.out,rfl⟩)];decide)];exact qt6b.2 (.inl ⟨HB.out,rfl⟩)⟩⟩
     case measure=>simp[intOf]
  ·obtain rfl:k=s.size:=by omega
   have RR:=Lib.hid (qxud (l:=s.data.toList) (v:=v) (n:=s.size) (st:=0) (by rw[hrun0,qhwc];rfl) rfl rfl rfl)
   clear hrun0
   go_wp2
   go_ret3
   exact⟨RR.out,rfl⟩
end Go.Proofs.YtbecggefmbpnoaaGreatDoor
