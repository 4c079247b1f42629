/- The contract of varint.Read. No condition but the length of a string. -/
import Derived.Deep.LoopGhost
import Derived.Deep.QuietTactic
import Derived.Test.YtbklidpadffpgaaGreatK21
import Derived.Test.YtbklidpadffpgaaGreatK13
import Derived.Test.YtbklidpadffpgaaGreatK17
import Derived.Test.YtbklidpadffpgaaGreatK07
import Derived.Test.YtbklidpadffpgaaGreatK14
set_option maxHeartbeats 2000000
set_option maxRecDepth 100000
namespace Go.Proofs.YtbklidpadffpgaaGreat
open Go.RowKit
theorem qe0g(s:ByteArray)(k:Nat)(h:k < s.size):s.data.toList.drop k=s[k]::s.data.toList.drop (k+1):=by
 rw[List.drop_eq_getElem_cons (by simpa using h)];rfl
theorem qhwc(s:ByteArray):s.data.toList.drop s.size=[]:=List.drop_of_length_le (by simp)
def q51h(l:List UInt8):Ending := .returned (.tuple #[.int .i64 (rdV l),.int .i64 (rdN l),.int .i64 (rdE l)])
theorem qxud{l:List UInt8}{v n st:Nat}{a b c:Int}(h:run 0 0 l=(v,n,st))(ha:((if st=1 then v else 0:Nat):Int)=a)(hb:((if st=1 then n else 0:Nat):Int)=b)
 (hc:((if st=0 then 3 else if st=1 then 0 else 5:Nat):Int)=c):Ending.returned (.tuple #[.int .i64 a,.int .i64 b,.int .i64 c])=q51h l:=by
 obtain⟨h1,h2,h3⟩:=qa1w h
 rw[←ha,←hb,←hc,←h1,←h2,←h3];rfl
def qxfh(l:List UInt8)(w:World)(e:Ending)(w':World):Prop:=e=q51h l∧Below w.heap.size w w'
def q905(w:World)(l:List UInt8)(k:Nat)(wr:World):Prop:=∃v,k < 4∧v < 128^k∧Rd wr w.heap.size v k 0∧Below w.heap.size w wr∧run 0 0 l=run v k (l.drop k)
theorem q58y{w wr w1:World}(hb:Below w.heap.size w wr)(hg:wr.grownBy w1 (some w.heap.size)):Below w.heap.size w w1:=
 hb.grown hg hb.size (fun k hk=>by cases hk;exact Nat.le_refl _)
theorem q6w6(s:ByteArray)(w:World)(_hm:s.size≤9223372036854775807) :
 Calls Tryz.prog 78 #[.string s] w (qxfh s.data.toList w):=by
 go_enter Tryz.func78,Tryz.ntmps78
 go_wp2_with fail
 refine(qz5z _).mono ?_
 rintro e w1 ⟨rfl,hr,hb⟩
 have H:=Lib.hid (show q905 w s.data.toList 0 w1 from⟨0,by decide,by decide,hr,hb,rfl⟩)
 clear hr hb
 go_wp2_with fail
 go_loopw [12] (fun i wr=>∃k:Nat,k≤s.size∧i = .int .i64 k∧q905 w s.data.toList k wr) (fun i _=>s.size - (intOf i).toNat)
 case atStart=>exact⟨0,Nat.zero_le _,rfl,H.out⟩
 case round=>
  obtain⟨k,hk,rfl,v,hk4,hv,hr,hb,hrun⟩:=hrel
  clear H
  by_cases hlt:k < s.size
  ·have hd:=qe0g s k hlt
   have RUN:=Lib.hid hrun
   have D:=Lib.hid hd
   clear hrun hd
   rcases qlf0 s[k] (k+1) with hx | hx | hx
   ·have NX:=Lib.hid hx
    clear hx
    go_wp2_with fail
    refine(qh0d s[k] hr hv hk4 NX.out).mono ?_
    rintro e w2 ⟨rfl,hr2,hg⟩
    have hb2:=q58y hb hg
    go_wp2_with fail
    go_roundw
    case rel=>
     have h4:=(qv8z.1 NX.out).2
     refine⟨k+1,by omega,by go_num,_,by omega,qpfr _ hv,hr2,hb2,?_⟩
     rw[RUN.out,D.out,qomx _ NX.out]
    case measure=>simp[intOf];omega
   ·have NX:=Lib.hid hx
    clear hx
    go_wp2_with fail
    refine(qhre s[k] hr hv hk4 NX.out).mono ?_
    rintro e w2 ⟨rfl,hr2,hg⟩
    have hb2:=q58y hb hg
    have RR:=Lib.hid (qxud (l:=s.data.toList) (v:=grow v k s[k]) (n:=k+1) (st:=1) (by rw[RUN.out,D.out,q408 _ (by rw[NX.out];decide),NX.out]) rfl rfl rfl)
    have h1:=hr2.c1
    have h2:=hr2.c2
    go_wp2_with fail
    go_quiet (fail)
    go_wp2
    go_ret3
    exact⟨RR.out,qnpu hb2 _⟩
   ·have NX:=Lib.hid hx
    clear hx
    go_wp2_with fail
    refine(qdxq s[k] hr hv hk4 NX.out).mono ?_
    rintro e w2 ⟨rfl,hr2,hg⟩
    have hb2:=q58y hb hg
    have RR:=Lib.hid (qxud (l:=s.data.toList) (v:=grow v k s[k]) (n:=k+1) (st:=2) (by rw[RUN.out,D.out,q408 _ (by rw[NX.out];decide),NX.out]) rfl rfl rfl)
    go_wp2_with fail
    go_ret3
    exact⟨RR.out,hb2⟩
  ·obtain rfl:k=s.size:=by omega
   have RR:=Lib.hid (qxud (l:=s.data.toList) (v:=v) (n:=s.size) (st:=0) (by rw[hrun,qhwc];rfl) rfl rfl rfl)
   clear hrun
   go_wp2
   go_ret3
   exact⟨RR.out,hb⟩
def FitA(p:Pk):Prop:=PkOk p∧q21o p
theorem q0yw{kind:Int}{i c:Nat}{l:List Pr}(hk:-9223372036854775808≤kind∧kind≤9223372036854775807)(hl:(∀p∈l,PrOk p∧p.text.length≤65535∧p.value.length≤65535)∧l.length≤1000):FitA (pkB kind i c l):=by
 refine⟨⟨hk,by show _≤(0:Int)∧(0:Int)≤_;decide,fun t ht=>?_,fun x hx=>(nomatch hx),fun x hx=>?_,fun x hx=>(nomatch hx)⟩,Nat.zero_le _,Nat.zero_le _,Nat.le_trans hl.2 (by decide),Nat.zero_le _⟩
 ·have:t=[]:=by simpa [Pk.texts,Pk.zero,pkB] using ht
  rw[this];decide
 ·obtain⟨h1,h2,h3⟩:=hl.1 x hx
  exact⟨h1,by omega,by omega⟩
theorem qkys:FitA Pk.zero:=by
 have:=q0yw (kind:=0) (i:=0) (c:=0) (l:=[]) (by decide) ⟨fun p hp=>(nomatch hp),Nat.zero_le _⟩
 exact this
def qplq(w:World)(R:Pk×Nat)(e:Ending)(W:World):Prop:=
 ∃a:Ad,e = .returned (.tuple #[.agg (pkC R.1 a),.int .i64 (R.2:Nat)])∧PkAt W R.1 a∧R.1.props.length≤a.pc∧FitA R.1∧Below w.heap.size w W∧(R.2≠0→a=adZ)
theorem qgtk(A B:Option Addr)(na nb c d:Nat)(l m:List Pr)(w:World)(hA:PL w A l)(hB:PL w B m)(hla:l.length=na)(hlb:m.length=nb)(hN:na≤70000)(hM:nb≤70000) :
 Calls Tryz.prog 9 #[.slice A na c,.slice B nb d] w fun e w'=>e = .returned (.bool (decide (l=m)))∧∃k,w'=w.drewN k:=by
 by_cases hn:na=nb
 ·subst hn
  obtain⟨D,hD⟩:∃D,decide (l=m)=D:=⟨_,rfl⟩
  rw[hD]
  have HD:=Lib.hid hD
  have HA:=Lib.hid hA
  have HB:=Lib.hid hB
  have HLA:=Lib.hid hla
  have HLB:=Lib.hid hlb
  have q0:(na:Int)≤70000:=by omega
  clear hA hB hla hlb hN hM hD
  go_enter Tryz.func9,Tryz.ntmps9
  go_wp2_with fail
  go_loopg [5] na (fun gk i wr=>∃k x:Nat,k≤na∧gk=na - k∧i = .int .i64 (k:Int)∧wr=w.drewN x∧∀j p q,j < k→l[j]? = some p→m[j]? = some q→p=q)
  case atStart=>exact⟨0,0,Nat.zero_le _,rfl,rfl,rfl,fun j p q h=>by omega⟩
  case round=>
   obtain⟨k,x,hk,rfl,rfl,rfl,hS⟩:=hrel
   have HS:=Lib.hid hS
   by_cases hlt:k < na
   ·have hkl:k < l.length:=by rw[HLA.out];exact hlt
    have hkm:k < m.length:=by rw[HLB.out];exact hlt
    obtain⟨p,hp⟩:∃p,l[k]? = some p:=⟨_,List.getElem?_eq_getElem hkl⟩
    obtain⟨q,hq⟩:∃q,m[k]? = some q:=⟨_,List.getElem?_eq_getElem hkm⟩
    obtain⟨ga,ia,rfl,_,a0,a1,a2,a3⟩:=HA.out.at hp
    obtain⟨gb,ib,rfl,_,b0,b1,b2,b3⟩:=HB.out.at hq
    have HP:=Lib.hid hp
    have HQ:=Lib.hid hq
    have HL:=Lib.hid hlt
    have g1:(k:Int) < (na:Int):=by omega
    have hno:p≠q→D=false:=fun h=>by
     rw[←HD.out]
     exact decide_eq_false fun e=>h (by subst e;exact Option.some.inj (HP.out.symm.trans HQ.out))
    have HNO:=Lib.hid hno
    clear hS hkl hkm hp hq hlt hk hno
    rcases qzlf p q with h | h | ⟨h1,h2⟩ | ⟨h1,h2,h3⟩ | ⟨h1,h2,h3,h4⟩
    ·subst h
     generalize p.id=x0 at a0 b0
     generalize ((p.n:Nat):Int)=x1 at a1 b1
     generalize bs p.text=x2 at a2 b2
     generalize bs p.value=x3 at a3 b3
     go_wp2_with fail
     go_quiet (fail)
     go_wp2_with fail
     go_roundg (na - (k+1))
     case measure=>have:=HL.out;omega
     case rel=>
      refine⟨k+1,_,by have:=HL.out;omega,rfl,by go_num,rfl,fun j u v hj hu hv=>?_⟩
      by_cases hjk:j=k
      ·subst hjk
       exact Option.some.inj ((hu.symm.trans HP.out).trans (HQ.out.symm.trans hv))
      ·exact HS.out j u v (by omega) hu hv
    ·have hD:=HNO.out (fun e=>by rw[e] at h;simp at h)
     subst hD
     generalize p.id=x0 at *
     generalize ((p.n:Nat):Int)=x1 at *
     generalize bs p.text=x2 at *
     generalize bs p.value=x3 at *
     generalize q.id=y0 at *
     generalize ((q.n:Nat):Int)=y1 at *
     generalize bs q.text=y2 at *
     generalize bs q.value=y3 at *
     go_wp2_with fail
     go_quiet (fail)
     go_wp2_with fail
     go_ret
     exact⟨rfl,_,qgiq _ _ _⟩
    ·have hD:=HNO.out (fun e=>by rw[e] at h2;simp at h2)
     subst hD
     rw[h1] at a0
     clear h1
     generalize p.id=x0 at *
     generalize ((p.n:Nat):Int)=x1 at *
     generalize bs p.text=x2 at *
     generalize bs p.value=x3 at *
     generalize q.id=y0 at *
     generalize ((q.n:Nat):Int)=y1 at *
     generalize bs q.text=y2 at *
     generalize bs q.value=y3 at *
     go_wp2_with fail
     go_quiet (fail)
     go_wp2_with fail
     go_ret
     exact⟨rfl,_,qgiq _ _ _⟩
    ·have hD:=HNO.out (fun e=>by rw[e] at h3;simp at h3)
     subst hD
     rw[h1] at a0
     rw[h2] at a1
     clear h1 h2
     generalize p.id=x0 at *
     generalize ((p.n:Nat):Int)=x1 at *
     generalize bs p.text=x2 at *
     generalize bs p.value=x3 at *
     generalize q.id=y0 at *
     generalize ((q.n:Nat):Int)=y1 at *
     generalize bs q.text=y2 at *
     generalize bs q.value=y3 at *
     go_wp2_with fail
     go_quiet (fail)
     go_wp2_with fail
     go_ret
     exact⟨rfl,_,qgiq _ _ _⟩
    ·have hD:=HNO.out (fun e=>by rw[e] at h4;simp at h4)
     subst hD
     rw[h1] at a0
     rw[h2] at a1
     rw[h3] at a2
     clear h1 h2 h3
     generalize p.id=x0 at *
     generalize ((p.n:Nat):Int)=x1 at *
     generalize bs p.text=x2 at *
     generalize bs p.value=x3 at *
     generalize q.id=y0 at *
     generalize ((q.n:Nat):Int)=y1 at *
     generalize bs q.text=y2 at *
     generalize bs q.value=y3 at *
     go_wp2_with fail
     go_quiet (fail)
     go_wp2_with fail
     go_ret
     exact⟨rfl,_,qgiq _ _ _⟩
   ·obtain rfl:k=na:=by omega
    have hD:D=true:=by rw[←HD.out];exact decide_eq_true (qs8g HLA.out HLB.out hS)
    subst hD
    clear hS hlt hk
    go_wp2_with fail
    go_ret
    exact⟨rfl,_,rfl⟩
 ·have hD:decide (l=m)=false:=decide_eq_false fun e=>hn (by rw[←hla,←hlb,e])
  have q0:((na:Int) != (nb:Int))=true:=by rw[bne_iff_ne];omega
  rw[hD]
  clear hA hB hla hlb hN hM hD hn
  go_enter Tryz.func9,Tryz.ntmps9
  go_wp2_with fail
  go_ret
  exact⟨rfl,0,rfl⟩
theorem qfzm(A B:Option Addr)(na nb c d:Nat)(l m:List Int)(w:World)(hA:CL w A (ics l))(hB:CL w B (ics m))(hla:l.length=na)(hlb:m.length=nb)(hN:na≤70000)(hM:nb≤70000) :
 Calls Tryz.prog 23 #[.slice A na c,.slice B nb d] w fun e w'=>e = .returned (.bool (decide (l=m)))∧∃k,w'=w.drewN k:=by
 by_cases hn:na=nb
 ·subst hn
  obtain⟨D,hD⟩:∃D,decide (l=m)=D:=⟨_,rfl⟩
  rw[hD]
  have HD:=Lib.hid hD
  have HA:=Lib.hid hA
  have HB:=Lib.hid hB
  have HLA:=Lib.hid hla
  have HLB:=Lib.hid hlb
  have q0:(na:Int)≤70000:=by omega
  clear hA hB hla hlb hN hM hD
  go_enter Tryz.func23,Tryz.ntmps23
  go_wp2_with fail
  go_loopg [5] na (fun gk i wr=>∃k x:Nat,k≤na∧gk=na - k∧i = .int .i64 (k:Int)∧wr=w.drewN x∧∀j p q,j < k→l[j]? = some p→m[j]? = some q→p=q)
  case atStart=>exact⟨0,0,Nat.zero_le _,rfl,rfl,rfl,fun j p q h=>by omega⟩
  case round=>
   obtain⟨k,x,hk,rfl,rfl,rfl,hS⟩:=hrel
   have HS:=Lib.hid hS
   by_cases hlt:k < na
   ·have hkl:k < l.length:=by rw[HLA.out];exact hlt
    have hkm:k < m.length:=by rw[HLB.out];exact hlt
    obtain⟨p,hp⟩:∃p,l[k]? = some p:=⟨_,List.getElem?_eq_getElem hkl⟩
    obtain⟨q,hq⟩:∃q,m[k]? = some q:=⟨_,List.getElem?_eq_getElem hkm⟩
    obtain⟨ga,ia,rfl,_,a0⟩:=HA.out.int hp
    obtain⟨gb,ib,rfl,_,b0⟩:=HB.out.int hq
    have HP:=Lib.hid hp
    have HQ:=Lib.hid hq
    have HL:=Lib.hid hlt
    have g1:(k:Int) < (na:Int):=by omega
    have hno:p≠q→D=false:=fun h=>by
     rw[←HD.out]
     exact decide_eq_false fun e=>h (by subst e;exact Option.some.inj (HP.out.symm.trans HQ.out))
    have HNO:=Lib.hid hno
    clear hS hkl hkm hp hq hlt hk hno
    rcases qd1x p q with h | h
    ·subst h
     go_wp2_with fail
     go_quiet (fail)
     go_wp2_with fail
     go_roundg (na - (k+1))
     case measure=>have:=HL.out;omega
     case rel=>
      refine⟨k+1,_,by have:=HL.out;omega,rfl,by go_num,rfl,fun j u v hj hu hv=>?_⟩
      by_cases hjk:j=k
      ·subst hjk
       exact Option.some.inj ((hu.symm.trans HP.out).trans (HQ.out.symm.trans hv))
      ·exact HS.out j u v (by omega) hu hv
    ·have hD:=HNO.out (fun e=>by rw[e] at h;simp at h)
     subst hD
     go_wp2_with fail
     go_quiet (fail)
     go_wp2_with fail
     go_ret
     exact⟨rfl,_,qgiq _ _ _⟩
   ·obtain rfl:k=na:=by omega
    have hD:D=true:=by rw[←HD.out];exact decide_eq_true (qs8g HLA.out HLB.out hS)
    subst hD
    clear hS hlt hk
    go_wp2_with fail
    go_ret
    exact⟨rfl,_,rfl⟩
 ·have hD:decide (l=m)=false:=decide_eq_false fun e=>hn (by rw[←hla,←hlb,e])
  have q0:((na:Int) != (nb:Int))=true:=by rw[bne_iff_ne];omega
  rw[hD]
  clear hA hB hla hlb hN hM hD hn
  go_enter Tryz.func23,Tryz.ntmps23
  go_wp2_with fail
  go_ret
  exact⟨rfl,0,rfl⟩
theorem qoah(A B:Option Addr)(na nb c d:Nat)(l m:List Fi)(w:World)(hA:CL w A (fcs l))(hB:CL w B (fcs m))(hla:l.length=na)(hlb:m.length=nb)(hN:na≤70000)(hM:nb≤70000) :
 Calls Tryz.prog 24 #[.slice A na c,.slice B nb d] w fun e w'=>e = .returned (.bool (decide (l=m)))∧∃k,w'=w.drewN k:=by
 by_cases hn:na=nb
 ·subst hn
  obtain⟨D,hD⟩:∃D,decide (l=m)=D:=⟨_,rfl⟩
  rw[hD]
  have HD:=Lib.hid hD
  have HA:=Lib.hid hA
  have HB:=Lib.hid hB
  have HLA:=Lib.hid hla
  have HLB:=Lib.hid hlb
  have q0:(na:Int)≤70000:=by omega
  clear hA hB hla hlb hN hM hD
  go_enter Tryz.func24,Tryz.ntmps24
  go_wp2_with fail
  go_loopg [5] na (fun gk i wr=>∃k x:Nat,k≤na∧gk=na - k∧i = .int .i64 (k:Int)∧wr=w.drewN x∧∀j p q,j < k→l[j]? = some p→m[j]? = some q→p=q)
  case atStart=>exact⟨0,0,Nat.zero_le _,rfl,rfl,rfl,fun j p q h=>by omega⟩
  case round=>
   obtain⟨k,x,hk,rfl,rfl,rfl,hS⟩:=hrel
   have HS:=Lib.hid hS
   by_cases hlt:k < na
   ·have hkl:k < l.length:=by rw[HLA.out];exact hlt
    have hkm:k < m.length:=by rw[HLB.out];exact hlt
    obtain⟨p,hp⟩:∃p,l[k]? = some p:=⟨_,List.getElem?_eq_getElem hkl⟩
    obtain⟨q,hq⟩:∃q,m[k]? = some q:=⟨_,List.getElem?_eq_getElem hkm⟩
    obtain⟨ga,ia,rfl,_,a0,a1,a2,a3,a4⟩:=HA.out.fi hp
    obtain⟨gb,ib,rfl,_,b0,b1,b2,b3,b4⟩:=HB.out.fi hq
    have HP:=Lib.hid hp
    have HQ:=Lib.hid hq
    have HL:=Lib.hid hlt
    have g1:(k:Int) < (na:Int):=by omega
    have hno:p≠q→D=false:=fun h=>by
     rw[←HD.out]
     exact decide_eq_false fun e=>h (by subst e;exact Option.some.inj (HP.out.symm.trans HQ.out))
    have HNO:=Lib.hid hno
    clear hS hkl hkm hp hq hlt hk hno
    rcases qpuj p q with h | h | ⟨h1,h2⟩ | ⟨h1,h2,h3⟩ | ⟨h1,h2,h3,h4⟩ | ⟨h1,h2,h3,h4,h5⟩
    ·subst h
     generalize bs p.topic=x0 at a0 b0
     generalize p.qos=x1 at a1 b1
     generalize p.noLocal=x2 at a2 b2
     generalize p.asPub=x3 at a3 b3
     generalize p.handling=x4 at a4 b4
     go_wp2_with fail
     go_quiet (fail)
     go_wp2_with fail
     go_roundg (na - (k+1))
     case measure=>have:=HL.out;omega
     case rel=>
      refine⟨k+1,_,by have:=HL.out;omega,rfl,by go_num,rfl,fun j u v hj hu hv=>?_⟩
      by_cases hjk:j=k
      ·subst hjk
       exact Option.some.inj ((hu.symm.trans HP.out).trans (HQ.out.symm.trans hv))
      ·exact HS.out j u v (by omega) hu hv
    ·have hD:=HNO.out (fun e=>by rw[e] at h;simp at h)
     subst hD
     generalize bs p.topic=x0 at *
     generalize p.qos=x1 at *
     generalize p.noLocal=x2 at *
     generalize p.asPub=x3 at *
     generalize p.handling=x4 at *
     generalize bs q.topic=y0 at *
     generalize q.qos=y1 at *
     generalize q.noLocal=y2 at *
     generalize q.asPub=y3 at *
     generalize q.handling=y4 at *
     go_wp2_with fail
     go_quiet (fail)
     go_wp2_with fail
     go_ret
     exact⟨rfl,_,qgiq _ _ _⟩
    ·have hD:=HNO.out (fun e=>by rw[e] at h2;simp at h2)
     subst hD
     rw[h1] at a0
     clear h1
     generalize bs p.topic=x0 at *
     generalize p.qos=x1 at *
     generalize p.noLocal=x2 at *
     generalize p.asPub=x3 at *
     generalize p.handling=x4 at *
     generalize bs q.topic=y0 at *
     generalize q.qos=y1 at *
     generalize q.noLocal=y2 at *
     generalize q.asPub=y3 at *
     generalize q.handling=y4 at *
     go_wp2_with fail
     go_quiet (fail)
     go_wp2_with fail
     go_ret
     exact⟨rfl,_,qgiq _ _ _⟩
    ·have hD:=HNO.out (fun e=>by rw[e] at h3;simp at h3)
     subst hD
     rw[h1] at a0
     rw[h2] at a1
     clear h1 h2
     generalize bs p.topic=x0 at *
     generalize p.qos=x1 at *
     generalize p.noLocal=x2 at *
     generalize p.asPub=x3 at *
     generalize p.handling=x4 at *
     generalize bs q.topic=y0 at *
     generalize q.qos=y1 at *
     generalize q.noLocal=y2 at *
     generalize q.asPub=y3 at *
     generalize q.handling=y4 at *
     go_wp2_with fail
     go_quiet (fail)
     go_wp2_with fail
     go_ret
     exact⟨rfl,_,qgiq _ _ _⟩
    ·have hD:=HNO.out (fun e=>by rw[e] at h4;simp at h4)
     subst hD
     rw[h1] at a0
     rw[h2] at a1
     rw[h3] at a2
     clear h1 h2 h3
     generalize bs p.topic=x0 at *
     generalize p.qos=x1 at *
     generalize p.noLocal=x2 at *
     generalize p.asPub=x3 at *
     generalize p.handling=x4 at *
     generalize bs q.topic=y0 at *
     generalize q.qos=y1 at *
     generalize q.noLocal=y2 at *
     generalize q.asPub=y3 at *
     generalize q.handling=y4 at *
     go_wp2_with fail
     go_quiet (fail)
     go_wp2_with fail
     go_ret
     exact⟨rfl,_,qgiq _ _ _⟩
    ·have hD:=HNO.out (fun e=>by rw[e] at h5;simp at h5)
     subst hD
     rw[h1] at a0
     rw[h2] at a1
     rw[h3] at a2
     rw[h4] at a3
     clear h1 h2 h3 h4
     generalize bs p.topic=x0 at *
     generalize p.qos=x1 at *
     generalize p.noLocal=x2 at *
     generalize p.asPub=x3 at *
     generalize p.handling=x4 at *
     generalize bs q.topic=y0 at *
     generalize q.qos=y1 at *
     generalize q.noLocal=y2 at *
     generalize q.asPub=y3 at *
     generalize q.handling=y4 at *
     go_wp2_with fail
     go_quiet (fail)
     go_wp2_with fail
     go_ret
     exact⟨rfl,_,qgiq _ _ _⟩
   ·obtain rfl:k=na:=by omega
    have hD:D=true:=by rw[←HD.out];exact decide_eq_true (qs8g HLA.out HLB.out hS)
    subst hD
    clear hS hlt hk
    go_wp2_with fail
    go_ret
    exact⟨rfl,_,rfl⟩
 ·have hD:decide (l=m)=false:=decide_eq_false fun e=>hn (by rw[←hla,←hlb,e])
  have q0:((na:Int) != (nb:Int))=true:=by rw[bne_iff_ne];omega
  rw[hD]
  clear hA hB hla hlb hN hM hD hn
  go_enter Tryz.func24,Tryz.ntmps24
  go_wp2_with fail
  go_ret
  exact⟨rfl,0,rfl⟩
end Go.Proofs.YtbklidpadffpgaaGreat
