/- The cells of a packet that is nothing, and of one of which a header tells. Condition: none. -/
import Derived.Deep.LoopGhost
import Derived.Deep.QuietTactic
import Derived.Test.YtbklidpadffpgaaGreatK03
import Derived.Test.YtbklidpadffpgaaGreatK04
import Derived.Test.YtbklidpadffpgaaGreatK08
set_option maxHeartbeats 2000000
set_option maxRecDepth 100000
namespace Go.Proofs.YtbklidpadffpgaaGreat
open Go.RowKit
theorem q5nr:(Tryz.prog.info? 35).map (·.size)=some 25:=by kernel_rfl
def pkZ:Array Value:=#[.int .i64 0,.bool false,.bool false,.int .i64 0,.int .i64 0,.string ⟨#[]⟩,.string ⟨#[]⟩,.bool false,.int .i64 0,.string ⟨#[]⟩,.bool false,.string ⟨#[]⟩,.bool false,.string ⟨#[]⟩,.bool false,.string ⟨#[]⟩,.string ⟨#[]⟩,.int .i64 0,.bool false,.slice none 0 0,.bool false,.int .i64 0,.slice none 0 0,.slice none 0 0,.slice none 0 0]
theorem qrai(W:World):(zeroValue 35).run Tryz.prog W = .ok (.agg pkZ) W:=by kernel_rfl
theorem qbwp:pkZ.size=25:=rfl
theorem qgtk(A B:Option Addr)(na nb c d:Nat)(l m:List Pr)(w:World)(hA:PL w A l)(hB:PL w B m)(hla:l.length=na)(hlb:m.length=nb)(hN:na≤70000)(hM:nb≤70000) :
 Calls Tryz.prog 9 #[.slice A na c,.slice B nb d] w fun e w'=>e = .returned (.bool (decide (l=m)))∧∃k,w'=w.drewN k:=by
 by_cases hn:na=nb
 ·subst hn
  obtain⟨D,hD⟩:∃D,decide (l=m)=D:=⟨_,rfl⟩
  rw[hD]
  have HD:=Lib.hid hD
  have HA:=Lib.hid hA
  have HB:=Lib.hid hB
  have HLA:=Lib.hid hla
  have HLB:=Lib.hid hlb
  have q0:(na:Int)≤70000:=by omega
  clear hA hB hla hlb hN hM hD
  go_enter Tryz.func9,Tryz.ntmps9
  go_wp2_with fail
  go_loopg [5] na (fun gk i wr=>∃k x:Nat,k≤na∧gk=na - k∧i = .int .i64 (k:Int)∧wr=w.drewN x∧∀j p q,j < k→l[j]? = some p→m[j]? = some q→p=q)
  case atStart=>exact⟨0,0,Nat.zero_le _,rfl,rfl,rfl,fun j p q h=>by omega⟩
  case round=>
   obtain⟨k,x,hk,rfl,rfl,rfl,hS⟩:=hrel
   have HS:=Lib.hid hS
   by_cases hlt:k < na
   ·have hkl:k < l.length:=by rw[HLA.out];exact hlt
    have hkm:k < m.length:=by rw[HLB.out];exact hlt
    obtain⟨p,hp⟩:∃p,l[k]? = some p:=⟨_,List.getElem?_eq_getElem hkl⟩
    obtain⟨q,hq⟩:∃q,m[k]? = some q:=⟨_,List.getElem?_eq_getElem hkm⟩
    obtain⟨ga,ia,rfl,_,a0,a1,a2,a3⟩:=HA.out.at hp
    obtain⟨gb,ib,rfl,_,b0,b1,b2,b3⟩:=HB.out.at hq
    have HP:=Lib.hid hp
    have HQ:=Lib.hid hq
    have HL:=Lib.hid hlt
    have g1:(k:Int) < (na:Int):=by omega
    have hno:p≠q→D=false:=fun h=>by
     rw[←HD.out]
     exact decide_eq_false fun e=>h (by subst e;exact Option.some.inj (HP.out.symm.trans HQ.out))
    have HNO:=Lib.hid hno
    clear hS hkl hkm hp hq hlt hk hno
    rcases qzlf p q with h | h | ⟨h1,h2⟩ | ⟨h1,h2,h3⟩ | ⟨h1,h2,h3,h4⟩
    ·subst h
     generalize p.id=x0 at a0 b0
     generalize ((p.n:Nat):Int)=x1 at a1 b1
     generalize bs p.text=x2 at a2 b2
     generalize bs p.value=x3 at a3 b3
     go_wp2_with fail
     go_quiet (fail)
     go_wp2_with fail
     go_roundg (na - (k+1))
     case measure=>have:=HL.out;omega
     case rel=>
      refine⟨k+1,_,by have:=HL.out;omega,rfl,by go_num,rfl,fun j u v hj hu hv=>?_⟩
      by_cases hjk:j=k
      ·subst hjk
       exact Option.some.inj ((hu.symm.trans HP.out).trans (HQ.out.symm.trans hv))
      ·exact HS.out j u v (by omega) hu hv
    ·have hD:=HNO.out (fun e=>by rw[e] at h;simp at h)
     subst hD
     generalize p.id=x0 at *
     generalize ((p.n:Nat):Int)=x1 at *
     generalize bs p.text=x2 at *
     generalize bs p.value=x3 at *
     generalize q.id=y0 at *
     generalize ((q.n:Nat):Int)=y1 at *
     generalize bs q.text=y2 at *
     generalize bs q.value=y3 at *
     go_wp2_with fail
     go_quiet (fail)
     go_wp2_with fail
     go_ret
     exact⟨rfl,_,qgiq _ _ _⟩
    ·have hD:=HNO.out (fun e=>by rw[e] at h2;simp at h2)
     subst hD
     rw[h1] at a0
     clear h1
     generalize p.id=x0 at *
     generalize ((p.n:Nat):Int)=x1 at *
     generalize bs p.text=x2 at *
     generalize bs p.value=x3 at *
     generalize q.id=y0 at *
     generalize ((q.n:Nat):Int)=y1 at *
     generalize bs q.text=y2 at *
     generalize bs q.value=y3 at *
     go_wp2_with fail
     go_quiet (fail)
     go_wp2_with fail
     go_ret
     exact⟨rfl,_,qgiq _ _ _⟩
    ·have hD:=HNO.out (fun e=>by rw[e] at h3;simp at h3)
     subst hD
     rw[h1] at a0
     rw[h2] at a1
     clear h1 h2
     generalize p.id=x0 at *
     generalize ((p.n:Nat):Int)=x1 at *
     generalize bs p.text=x2 at *
     generalize bs p.value=x3 at *
     generalize q.id=y0 at *
     generalize ((q.n:Nat):Int)=y1 at *
     generalize bs q.text=y2 at *
     generalize bs q.value=y3 at *
     go_wp2_with fail
     go_quiet (fail)
     go_wp2_with fail
     go_ret
     exact⟨rfl,_,qgiq _ _ _⟩
    ·have hD:=HNO.out (fun e=>by rw[e] at h4;simp at h4)
     subst hD
     rw[h1] at a0
     rw[h2] at a1
     rw[h3] at a2
     clear h1 h2 h3
     generalize p.id=x0 at *
     generalize ((p.n:Nat):Int)=x1 at *
     generalize bs p.text=x2 at *
     generalize bs p.value=x3 at *
     generalize q.id=y0 at *
     generalize ((q.n:Nat):Int)=y1 at *
     generalize bs q.text=y2 at *
     generalize bs q.value=y3 at *
     go_wp2_with fail
     go_quiet (fail)
     go_wp2_with fail
     go_ret
     exact⟨rfl,_,qgiq _ _ _⟩
   ·obtain rfl:k=na:=by omega
    have hD:D=true:=by rw[←HD.out];exact decide_eq_true (qs8g HLA.out HLB.out hS)
    subst hD
    clear hS hlt hk
    go_wp2_with fail
    go_ret
    exact⟨rfl,_,rfl⟩
 ·have hD:decide (l=m)=false:=decide_eq_false fun e=>hn (by rw[←hla,←hlb,e])
  have q0:((na:Int) != (nb:Int))=true:=by rw[bne_iff_ne];omega
  rw[hD]
  clear hA hB hla hlb hN hM hD hn
  go_enter Tryz.func9,Tryz.ntmps9
  go_wp2_with fail
  go_ret
  exact⟨rfl,0,rfl⟩
theorem qfzm(A B:Option Addr)(na nb c d:Nat)(l m:List Int)(w:World)(hA:CL w A (ics l))(hB:CL w B (ics m))(hla:l.length=na)(hlb:m.length=nb)(hN:na≤70000)(hM:nb≤70000) :
 Calls Tryz.prog 23 #[.slice A na c,.slice B nb d] w fun e w'=>e = .returned (.bool (decide (l=m)))∧∃k,w'=w.drewN k:=by
 by_cases hn:na=nb
 ·subst hn
  obtain⟨D,hD⟩:∃D,decide (l=m)=D:=⟨_,rfl⟩
  rw[hD]
  have HD:=Lib.hid hD
  have HA:=Lib.hid hA
  have HB:=Lib.hid hB
  have HLA:=Lib.hid hla
  have HLB:=Lib.hid hlb
  have q0:(na:Int)≤70000:=by omega
  clear hA hB hla hlb hN hM hD
  go_enter Tryz.func23,Tryz.ntmps23
  go_wp2_with fail
  go_loopg [5] na (fun gk i wr=>∃k x:Nat,k≤na∧gk=na - k∧i = .int .i64 (k:Int)∧wr=w.drewN x∧∀j p q,j < k→l[j]? = some p→m[j]? = some q→p=q)
  case atStart=>exact⟨0,0,Nat.zero_le _,rfl,rfl,rfl,fun j p q h=>by omega⟩
  case round=>
   obtain⟨k,x,hk,rfl,rfl,rfl,hS⟩:=hrel
   have HS:=Lib.hid hS
   by_cases hlt:k < na
   ·have hkl:k < l.length:=by rw[HLA.out];exact hlt
    have hkm:k < m.length:=by rw[HLB.out];exact hlt
    obtain⟨p,hp⟩:∃p,l[k]? = some p:=⟨_,List.getElem?_eq_getElem hkl⟩
    obtain⟨q,hq⟩:∃q,m[k]? = some q:=⟨_,List.getElem?_eq_getElem hkm⟩
    obtain⟨ga,ia,rfl,_,a0⟩:=HA.out.int hp
    obtain⟨gb,ib,rfl,_,b0⟩:=HB.out.int hq
    have HP:=Lib.hid hp
    have HQ:=Lib.hid hq
    have HL:=Lib.hid hlt
    have g1:(k:Int) < (na:Int):=by omega
    have hno:p≠q→D=false:=fun h=>by
     rw[←HD.out]
     exact decide_eq_false fun e=>h (by subst e;exact Option.some.inj (HP.out.symm.trans HQ.out))
    have HNO:=Lib.hid hno
    clear hS hkl hkm hp hq hlt hk hno
    rcases qd1x p q with h | h
    ·subst h
     go_wp2_with fail
     go_quiet (fail)
     go_wp2_with fail
     go_roundg (na - (k+1))
     case measure=>have:=HL.out;omega
     case rel=>
      refine⟨k+1,_,by have:=HL.out;omega,rfl,by go_num,rfl,fun j u v hj hu hv=>?_⟩
      by_cases hjk:j=k
      ·subst hjk
       exact Option.some.inj ((hu.symm.trans HP.out).trans (HQ.out.symm.trans hv))
      ·exact HS.out j u v (by omega) hu hv
    ·have hD:=HNO.out (fun e=>by rw[e] at h;simp at h)
     subst hD
     go_wp2_with fail
     go_quiet (fail)
     go_wp2_with fail
     go_ret
     exact⟨rfl,_,qgiq _ _ _⟩
   ·obtain rfl:k=na:=by omega
    have hD:D=true:=by rw[←HD.out];exact decide_eq_true (qs8g HLA.out HLB.out hS)
    subst hD
    clear hS hlt hk
    go_wp2_with fail
    go_ret
    exact⟨rfl,_,rfl⟩
 ·have hD:decide (l=m)=false:=decide_eq_false fun e=>hn (by rw[←hla,←hlb,e])
  have q0:((na:Int) != (nb:Int))=true:=by rw[bne_iff_ne];omega
  rw[hD]
  clear hA hB hla hlb hN hM hD hn
  go_enter Tryz.func23,Tryz.ntmps23
  go_wp2_with fail
  go_ret
  exact⟨rfl,0,rfl⟩
theorem qoah(A B:Option Addr)(na nb c d:Nat)(l m:List Fi)(w:World)(hA:CL w A (fcs l))(hB:CL w B (fcs m))(hla:l.length=na)(hlb:m.length=nb)(hN:na≤70000)(hM:nb≤70000) :
 Calls Tryz.prog 24 #[.slice A na c,.slice B nb d] w fun e w'=>e = .returned (.bool (decide (l=m)))∧∃k,w'=w.drewN k:=by
 by_cases hn:na=nb
 ·subst hn
  obtain⟨D,hD⟩:∃D,decide (l=m)=D:=⟨_,rfl⟩
  rw[hD]
  have HD:=Lib.hid hD
  have HA:=Lib.hid hA
  have HB:=Lib.hid hB
  have HLA:=Lib.hid hla
  have HLB:=Lib.hid hlb
  have q0:(na:Int)≤70000:=by omega
  clear hA hB hla hlb hN hM hD
  go_enter Tryz.func24,Tryz.ntmps24
  go_wp2_with fail
  go_loopg [5] na (fun gk i wr=>∃k x:Nat,k≤na∧gk=na - k∧i = .int .i64 (k:Int)∧wr=w.drewN x∧∀j p q,j < k→l[j]? = some p→m[j]? = some q→p=q)
  case atStart=>exact⟨0,0,Nat.zero_le _,rfl,rfl,rfl,fun j p q h=>by omega⟩
  case round=>
   obtain⟨k,x,hk,rfl,rfl,rfl,hS⟩:=hrel
   have HS:=Lib.hid hS
   by_cases hlt:k < na
   ·have hkl:k < l.length:=by rw[HLA.out];exact hlt
    have hkm:k < m.length:=by rw[HLB.out];exact hlt
    obtain⟨p,hp⟩:∃p,l[k]? = some p:=⟨_,List.getElem?_eq_getElem hkl⟩
    obtain⟨q,hq⟩:∃q,m[k]? = some q:=⟨_,List.getElem?_eq_getElem hkm⟩
    obtain⟨ga,ia,rfl,_,a0,a1,a2,a3,a4⟩:=HA.out.fi hp
    obtain⟨gb,ib,rfl,_,b0,b1,b2,b3,b4⟩:=HB.out.fi hq
    have HP:=Lib.hid hp
    have HQ:=Lib.hid hq
    have HL:=Lib.hid hlt
    have g1:(k:Int) < (na:Int):=by omega
    have hno:p≠q→D=false:=fun h=>by
     rw[←HD.out]
     exact decide_eq_false fun e=>h (by subst e;exact Option.some.inj (HP.out.symm.trans HQ.out))
    have HNO:=Lib.hid hno
    clear hS hkl hkm hp hq hlt hk hno
    rcases qpuj p q with h | h | ⟨h1,h2⟩ | ⟨h1,h2,h3⟩ | ⟨h1,h2,h3,h4⟩ | ⟨h1,h2,h3,h4,h5⟩
    ·subst h
     generalize bs p.topic=x0 at a0 b0
     generalize p.qos=x1 at a1 b1
     generalize p.noLocal=x2 at a2 b2
     generalize p.asPub=x3 at a3 b3
     generalize p.handling=x4 at a4 b4
     go_wp2_with fail
     go_quiet (fail)
     go_wp2_with fail
     go_roundg (na - (k+1))
     case measure=>have:=HL.out;omega
     case rel=>
      refine⟨k+1,_,by have:=HL.out;omega,rfl,by go_num,rfl,fun j u v hj hu hv=>?_⟩
      by_cases hjk:j=k
      ·subst hjk
       exact Option.some.inj ((hu.symm.trans HP.out).trans (HQ.out.symm.trans hv))
      ·exact HS.out j u v (by omega) hu hv
    ·have hD:=HNO.out (fun e=>by rw[e] at h;simp at h)
     subst hD
     generalize bs p.topic=x0 at *
     generalize p.qos=x1 at *
     generalize p.noLocal=x2 at *
     generalize p.asPub=x3 at *
     generalize p.handling=x4 at *
     generalize bs q.topic=y0 at *
     generalize q.qos=y1 at *
     generalize q.noLocal=y2 at *
     generalize q.asPub=y3 at *
     generalize q.handling=y4 at *
     go_wp2_with fail
     go_quiet (fail)
     go_wp2_with fail
     go_ret
     exact⟨rfl,_,qgiq _ _ _⟩
    ·have hD:=HNO.out (fun e=>by rw[e] at h2;simp at h2)
     subst hD
     rw[h1] at a0
     clear h1
     generalize bs p.topic=x0 at *
     generalize p.qos=x1 at *
     generalize p.noLocal=x2 at *
     generalize p.asPub=x3 at *
     generalize p.handling=x4 at *
     generalize bs q.topic=y0 at *
     generalize q.qos=y1 at *
     generalize q.noLocal=y2 at *
     generalize q.asPub=y3 at *
     generalize q.handling=y4 at *
     go_wp2_with fail
     go_quiet (fail)
     go_wp2_with fail
     go_ret
     exact⟨rfl,_,qgiq _ _ _⟩
    ·have hD:=HNO.out (fun e=>by rw[e] at h3;simp at h3)
     subst hD
     rw[h1] at a0
     rw[h2] at a1
     clear h1 h2
     generalize bs p.topic=x0 at *
     generalize p.qos=x1 at *
     generalize p.noLocal=x2 at *
     generalize p.asPub=x3 at *
     generalize p.handling=x4 at *
     generalize bs q.topic=y0 at *
     generalize q.qos=y1 at *
     generalize q.noLocal=y2 at *
     generalize q.asPub=y3 at *
     generalize q.handling=y4 at *
     go_wp2_with fail
     go_quiet (fail)
     go_wp2_with fail
     go_ret
     exact⟨rfl,_,qgiq _ _ _⟩
    ·have hD:=HNO.out (fun e=>by rw[e] at h4;simp at h4)
     subst hD
     rw[h1] at a0
     rw[h2] at a1
     rw[h3] at a2
     clear h1 h2 h3
     generalize bs p.topic=x0 at *
     generalize p.qos=x1 at *
     generalize p.noLocal=x2 at *
     generalize p.asPub=x3 at *
     generalize p.handling=x4 at *
     generalize bs q.topic=y0 at *
     generalize q.qos=y1 at *
     generalize q.noLocal=y2 at *
     generalize q.asPub=y3 at *
     generalize q.handling=y4 at *
     go_wp2_with fail
     go_quiet (fail)
     go_wp2_with fail
     go_ret
     exact⟨rfl,_,qgiq _ _ _⟩
    ·have hD:=HNO.out (fun e=>by rw[e] at h5;simp at h5)
     subst hD
     rw[h1] at a0
     rw[h2] at a1
     rw[h3] at a2
     rw[h4] at a3
     clear h1 h2 h3 h4
     generalize bs p.topic=x0 at *
     generalize p.qos=x1 at *
     generalize p.noLocal=x2 at *
     generalize p.asPub=x3 at *
     generalize p.handling=x4 at *
     generalize bs q.topic=y0 at *
     generalize q.qos=y1 at *
     generalize q.noLocal=y2 at *
     generalize q.asPub=y3 at *
     generalize q.handling=y4 at *
     go_wp2_with fail
     go_quiet (fail)
     go_wp2_with fail
     go_ret
     exact⟨rfl,_,qgiq _ _ _⟩
   ·obtain rfl:k=na:=by omega
    have hD:D=true:=by rw[←HD.out];exact decide_eq_true (qs8g HLA.out HLB.out hS)
    subst hD
    clear hS hlt hk
    go_wp2_with fail
    go_ret
    exact⟨rfl,_,rfl⟩
 ·have hD:decide (l=m)=false:=decide_eq_false fun e=>hn (by rw[←hla,←hlb,e])
  have q0:((na:Int) != (nb:Int))=true:=by rw[bne_iff_ne];omega
  rw[hD]
  clear hA hB hla hlb hN hM hD hn
  go_enter Tryz.func24,Tryz.ntmps24
  go_wp2_with fail
  go_ret
  exact⟨rfl,0,rfl⟩
theorem q08q(t u:ByteArray)(q:Int)(r:Bool)(A B:Option Addr)(n c d:Nat)(l:List Pr)(w:World)(hA:PL w A l)(hB:PL w B l)(hn:l.length=n)(hl:n≤70000) :
 Calls Tryz.prog 22 #[.agg #[.string t,.string u,.int .i64 q,.bool r,.slice A n c],.agg #[.string t,.string u,.int .i64 q,.bool r,.slice B n d]] w fun e w'=>e = .returned (.bool true)∧Below w.heap.size w w':=by
 have HB:=Lib.hid (fun o o'=>qxh2 (qybm (w:=w) o) (qybm o'))
 have EQ:=Lib.hid (fun o o'=>qgtk A B n n c d l l ((w.alloc o).alloc o') (hA.below (qxh2 (qybm _) (qybm _))) (hB.below (qxh2 (qybm _) (qybm _))) hn hn hl hl)
 simp only[decide_true] at EQ
 clear hA hB hn hl
 go_enter Tryz.func22,Tryz.ntmps22
 go_wp2_with fail
 refine(EQ.out _ _).mono ?_
 rintro e w1 ⟨rfl,m,rfl⟩
 go_wp2_with fail
 go_ret
 exact⟨rfl,qnpu (HB.out _ _) m⟩
theorem qbsf(p:Pk)(a b:Ad)(w:World)(hp:PkAt w p a)(hq:PkAt w p b)(h1:p.codes.length≤70000)(h2:p.filters.length≤70000)(h3:p.props.length≤70000)(h4:p.wProps.length≤70000) :
 Calls Tryz.prog 10 #[pkV p a,pkV p b] w fun e w'=>e = .returned (.bool true)∧Below w.heap.size w w':=by
 have hbx:Below w.heap.size w ((w.alloc (.cells (pkC p a) 35)).alloc (.cells (pkC p b) 35)):=qxh2 (qybm _) (qybm _)
 have HB:=Lib.hid hbx
 have WL:=fun W (hb:Below w.heap.size w W)=>q08q (bs p.wTopic) (bs p.wPayload) p.wQos p.wRetain a.w b.w p.wProps.length a.wc b.wc p.wProps W (hp.w.below hb) (hq.w.below hb) rfl h4
 have CO:=fun W (hb:Below w.heap.size w W)=>qfzm a.cs b.cs _ _ a.cc b.cc p.codes p.codes W (hp.cs.below hb) (hq.cs.below hb) rfl rfl h1 h1
 have FI:=fun W (hb:Below w.heap.size w W)=>qoah a.fs b.fs _ _ a.fc b.fc p.filters p.filters W (hp.fs.below hb) (hq.fs.below hb) rfl rfl h2 h2
 have PR:=fun W (hb:Below w.heap.size w W)=>qgtk a.ps b.ps _ _ a.pc b.pc p.props p.props W (hp.ps.below hb) (hq.ps.below hb) rfl rfl h3 h3
 simp only[decide_true] at CO FI PR
 have GA:=Lib.hid (heap_alloc2_old w (.cells (pkC p a) 35) (.cells (pkC p b) 35))
 have GB:=Lib.hid (heap_alloc2_new w (.cells (pkC p a) 35) (.cells (pkC p b) 35))
 clear hbx hp hq h1 h2 h3 h4
 unfold pkV
 have c0:(pkC p a)[0]? = some (.int .i64 p.kind):=rfl
 have c1:(pkC p a)[1]? = some (.bool p.dup):=rfl
 have c2:(pkC p a)[2]? = some (.bool p.retain):=rfl
 have c3:(pkC p a)[3]? = some (.int .i64 p.qos):=rfl
 have c4:(pkC p a)[4]? = some (.int .i64 p.id):=rfl
 have c5:(pkC p a)[5]? = some (.string (bs p.topic)):=rfl
 have c6:(pkC p a)[6]? = some (.string (bs p.payload)):=rfl
 have c7:(pkC p a)[7]? = some (.bool p.clean):=rfl
 have c8:(pkC p a)[8]? = some (.int .i64 p.keep):=rfl
 have c9:(pkC p a)[9]? = some (.string (bs p.client)):=rfl
 have c10:(pkC p a)[10]? = some (.bool p.hasUser):=rfl
 have c11:(pkC p a)[11]? = some (.string (bs p.user)):=rfl
 have c12:(pkC p a)[12]? = some (.bool p.hasPass):=rfl
 have c13:(pkC p a)[13]? = some (.string (bs p.pass)):=rfl
 have c14:(pkC p a)[14]? = some (.bool p.hasWill):=rfl
 have c15:(pkC p a)[15]? = some (.string (bs p.wTopic)):=rfl
 have c16:(pkC p a)[16]? = some (.string (bs p.wPayload)):=rfl
 have c17:(pkC p a)[17]? = some (.int .i64 p.wQos):=rfl
 have c18:(pkC p a)[18]? = some (.bool p.wRetain):=rfl
 have c19:(pkC p a)[19]? = some (.slice a.w p.wProps.length a.wc):=rfl
 have c20:(pkC p a)[20]? = some (.bool p.session):=rfl
 have c21:(pkC p a)[21]? = some (.int .i64 p.code):=rfl
 have c22:(pkC p a)[22]? = some (.slice a.cs p.codes.length a.cc):=rfl
 have c23:(pkC p a)[23]? = some (.slice a.fs p.filters.length a.fc):=rfl
 have c24:(pkC p a)[24]? = some (.slice a.ps p.props.length a.pc):=rfl
 have e0:(pkC p b)[0]? = some (.int .i64 p.kind):=rfl
 have e1:(pkC p b)[1]? = some (.bool p.dup):=rfl
 have e2:(pkC p b)[2]? = some (.bool p.retain):=rfl
 have e3:(pkC p b)[3]? = some (.int .i64 p.qos):=rfl
 have e4:(pkC p b)[4]? = some (.int .i64 p.id):=rfl
 have e5:(pkC p b)[5]? = some (.string (bs p.topic)):=rfl
 have e6:(pkC p b)[6]? = some (.string (bs p.payload)):=rfl
 have e7:(pkC p b)[7]? = some (.bool p.clean):=rfl
 have e8:(pkC p b)[8]? = some (.int .i64 p.keep):=rfl
 have e9:(pkC p b)[9]? = some (.string (bs p.client)):=rfl
 have e10:(pkC p b)[10]? = some (.bool p.hasUser):=rfl
 have e11:(pkC p b)[11]? = some (.string (bs p.user)):=rfl
 have e12:(pkC p b)[12]? = some (.bool p.hasPass):=rfl
 have e13:(pkC p b)[13]? = some (.string (bs p.pass)):=rfl
 have e14:(pkC p b)[14]? = some (.bool p.hasWill):=rfl
 have e15:(pkC p b)[15]? = some (.string (bs p.wTopic)):=rfl
 have e16:(pkC p b)[16]? = some (.string (bs p.wPayload)):=rfl
 have e17:(pkC p b)[17]? = some (.int .i64 p.wQos):=rfl
 have e18:(pkC p b)[18]? = some (.bool p.wRetain):=rfl
 have e19:(pkC p b)[19]? = some (.slice b.w p.wProps.length b.wc):=rfl
 have e20:(pkC p b)[20]? = some (.bool p.session):=rfl
 have e21:(pkC p b)[21]? = some (.int .i64 p.code):=rfl
 have e22:(pkC p b)[22]? = some (.slice b.cs p.codes.length b.cc):=rfl
 have e23:(pkC p b)[23]? = some (.slice b.fs p.filters.length b.fc):=rfl
 have e24:(pkC p b)[24]? = some (.slice b.ps p.props.length b.pc):=rfl
 generalize pkC p a=C at *
 generalize pkC p b=E at *
 generalize p.kind=v0 at *
 generalize p.dup=v1 at *
 generalize p.retain=v2 at *
 generalize p.qos=v3 at *
 generalize p.id=v4 at *
 generalize bs p.topic=v5 at *
 generalize bs p.payload=v6 at *
 generalize p.clean=v7 at *
 generalize p.keep=v8 at *
 generalize bs p.client=v9 at *
 generalize p.hasUser=v10 at *
 generalize bs p.user=v11 at *
 generalize p.hasPass=v12 at *
 generalize bs p.pass=v13 at *
 generalize p.hasWill=v14 at *
 generalize bs p.wTopic=v15 at *
 generalize bs p.wPayload=v16 at *
 generalize p.wQos=v17 at *
 generalize p.wRetain=v18 at *
 generalize p.session=v20 at *
 generalize p.code=v21 at *
 generalize p.wProps.length=n19 at *
 generalize p.codes.length=n22 at *
 generalize p.filters.length=n23 at *
 generalize p.props.length=n24 at *
 have WL:=Lib.hid WL
 have CO:=Lib.hid CO
 have FI:=Lib.hid FI
 have PR:=Lib.hid PR
 go_enter Tryz.func10,Tryz.ntmps10
 go_wp2_with fail
 refine(WL.out _ HB.out).mono ?_
 rintro e W1 ⟨rfl,hb⟩
 have B1:=Lib.hid (qxh2 HB.out hb)
 have GA1:=Lib.hid ((hb.block _ (lt_of_block GA.out)).trans GA.out)
 have GB1:=Lib.hid ((hb.block _ (lt_of_block GB.out)).trans GB.out)
 clear hb
 have c0':W1.cell? ⟨w.heap.size,0,none⟩=_:=(cell_of_row _ _ 0 _ _ _ GA1.out).trans c0
 have c1':W1.cell? ⟨w.heap.size,1,none⟩=_:=(cell_of_row _ _ 1 _ _ _ GA1.out).trans c1
 have c2':W1.cell? ⟨w.heap.size,2,none⟩=_:=(cell_of_row _ _ 2 _ _ _ GA1.out).trans c2
 have c3':W1.cell? ⟨w.heap.size,3,none⟩=_:=(cell_of_row _ _ 3 _ _ _ GA1.out).trans c3
 have c4':W1.cell? ⟨w.heap.size,4,none⟩=_:=(cell_of_row _ _ 4 _ _ _ GA1.out).trans c4
 have c5':W1.cell? ⟨w.heap.size,5,none⟩=_:=(cell_of_row _ _ 5 _ _ _ GA1.out).trans c5
 have c6':W1.cell? ⟨w.heap.size,6,none⟩=_:=(cell_of_row _ _ 6 _ _ _ GA1.out).trans c6
 have c7':W1.cell? ⟨w.heap.size,7,none⟩=_:=(cell_of_row _ _ 7 _ _ _ GA1.out).trans c7
 have c8':W1.cell? ⟨w.heap.size,8,none⟩=_:=(cell_of_row _ _ 8 _ _ _ GA1.out).trans c8
 have c9':W1.cell? ⟨w.heap.size,9,none⟩=_:=(cell_of_row _ _ 9 _ _ _ GA1.out).trans c9
 have c10':W1.cell? ⟨w.heap.size,10,none⟩=_:=(cell_of_row _ _ 10 _ _ _ GA1.out).trans c10
 have c11':W1.cell? ⟨w.heap.size,11,none⟩=_:=(cell_of_row _ _ 11 _ _ _ GA1.out).trans c11
 have c12':W1.cell? ⟨w.heap.size,12,none⟩=_:=(cell_of_row _ _ 12 _ _ _ GA1.out).trans c12
 have c13':W1.cell? ⟨w.heap.size,13,none⟩=_:=(cell_of_row _ _ 13 _ _ _ GA1.out).trans c13
 have c14':W1.cell? ⟨w.heap.size,14,none⟩=_:=(cell_of_row _ _ 14 _ _ _ GA1.out).trans c14
 have c15':W1.cell? ⟨w.heap.size,15,none⟩=_:=(cell_of_row _ _ 15 _ _ _ GA1.out).trans c15
 have c16':W1.cell? ⟨w.heap.size,16,none⟩=_:=(cell_of_row _ _ 16 _ _ _ GA1.out).trans c16
 have c17':W1.cell? ⟨w.heap.size,17,none⟩=_:=(cell_of_row _ _ 17 _ _ _ GA1.out).trans c17
 have c18':W1.cell? ⟨w.heap.size,18,none⟩=_:=(cell_of_row _ _ 18 _ _ _ GA1.out).trans c18
 have c19':W1.cell? ⟨w.heap.size,19,none⟩=_:=(cell_of_row _ _ 19 _ _ _ GA1.out).trans c19
 have c20':W1.cell? ⟨w.heap.size,20,none⟩=_:=(cell_of_row _ _ 20 _ _ _ GA1.out).trans c20
 have c21':W1.cell? ⟨w.heap.size,21,none⟩=_:=(cell_of_row _ _ 21 _ _ _ GA1.out).trans c21
 have c22':W1.cell? ⟨w.heap.size,22,none⟩=_:=(cell_of_row _ _ 22 _ _ _ GA1.out).trans c22
 have c23':W1.cell? ⟨w.heap.size,23,none⟩=_:=(cell_of_row _ _ 23 _ _ _ GA1.out).trans c23
 have c24':W1.cell? ⟨w.heap.size,24,none⟩=_:=(cell_of_row _ _ 24 _ _ _ GA1.out).trans c24
 have e0':W1.cell? ⟨w.heap.size+1,0,none⟩=_:=(cell_of_row _ _ 0 _ _ _ GB1.out).trans e0
 have e1':W1.cell? ⟨w.heap.size+1,1,none⟩=_:=(cell_of_row _ _ 1 _ _ _ GB1.out).trans e1
 have e2':W1.cell? ⟨w.heap.size+1,2,none⟩=_:=(cell_of_row _ _ 2 _ _ _ GB1.out).trans e2
 have e3':W1.cell? ⟨w.heap.size+1,3,none⟩=_:=(cell_of_row _ _ 3 _ _ _ GB1.out).trans e3
 have e4':W1.cell? ⟨w.heap.size+1,4,none⟩=_:=(cell_of_row _ _ 4 _ _ _ GB1.out).trans e4
 have e5':W1.cell? ⟨w.heap.size+1,5,none⟩=_:=(cell_of_row _ _ 5 _ _ _ GB1.out).trans e5
 have e6':W1.cell? ⟨w.heap.size+1,6,none⟩=_:=(cell_of_row _ _ 6 _ _ _ GB1.out).trans e6
 have e7':W1.cell? ⟨w.heap.size+1,7,none⟩=_:=(cell_of_row _ _ 7 _ _ _ GB1.out).trans e7
 have e8':W1.cell? ⟨w.heap.size+1,8,none⟩=_:=(cell_of_row _ _ 8 _ _ _ GB1.out).trans e8
 have e9':W1.cell? ⟨w.heap.size+1,9,none⟩=_:=(cell_of_row _ _ 9 _ _ _ GB1.out).trans e9
 have e10':W1.cell? ⟨w.heap.size+1,10,none⟩=_:=(cell_of_row _ _ 10 _ _ _ GB1.out).trans e10
 have e11':W1.cell? ⟨w.heap.size+1,11,none⟩=_:=(cell_of_row _ _ 11 _ _ _ GB1.out).trans e11
 have e12':W1.cell? ⟨w.heap.size+1,12,none⟩=_:=(cell_of_row _ _ 12 _ _ _ GB1.out).trans e12
 have e13':W1.cell? ⟨w.heap.size+1,13,none⟩=_:=(cell_of_row _ _ 13 _ _ _ GB1.out).trans e13
 have e14':W1.cell? ⟨w.heap.size+1,14,none⟩=_:=(cell_of_row _ _ 14 _ _ _ GB1.out).trans e14
 have e15':W1.cell? ⟨w.heap.size+1,15,none⟩=_:=(cell_of_row _ _ 15 _ _ _ GB1.out).trans e15
 have e16':W1.cell? ⟨w.heap.size+1,16,none⟩=_:=(cell_of_row _ _ 16 _ _ _ GB1.out).trans e16
 have e17':W1.cell? ⟨w.heap.size+1,17,none⟩=_:=(cell_of_row _ _ 17 _ _ _ GB1.out).trans e17
 have e18':W1.cell? ⟨w.heap.size+1,18,none⟩=_:=(cell_of_row _ _ 18 _ _ _ GB1.out).trans e18
 have e19':W1.cell? ⟨w.heap.size+1,19,none⟩=_:=(cell_of_row _ _ 19 _ _ _ GB1.out).trans e19
 have e20':W1.cell? ⟨w.heap.size+1,20,none⟩=_:=(cell_of_row _ _ 20 _ _ _ GB1.out).trans e20
 have e21':W1.cell? ⟨w.heap.size+1,21,none⟩=_:=(cell_of_row _ _ 21 _ _ _ GB1.out).trans e21
 have e22':W1.cell? ⟨w.heap.size+1,22,none⟩=_:=(cell_of_row _ _ 22 _ _ _ GB1.out).trans e22
 have e23':W1.cell? ⟨w.heap.size+1,23,none⟩=_:=(cell_of_row _ _ 23 _ _ _ GB1.out).trans e23
 have e24':W1.cell? ⟨w.heap.size+1,24,none⟩=_:=(cell_of_row _ _ 24 _ _ _ GB1.out).trans e24
 clear c0 c1 c2 c3 c4 c5 c6 c7 c8 c9 c10 c11 c12 c13 c14 c15 c16 c17 c18 c19 c20 c21 c22 c23 c24 e0 e1 e2 e3 e4 e5 e6 e7 e8 e9 e10 e11 e12 e13 e14 e15 e16 e17 e18 e19 e20 e21 e22 e23 e24
 go_wp2_with fail
 refine(CO.out _ B1.out).mono ?_
 rintro e W2 ⟨rfl,m,rfl⟩
 go_wp2_with fail
 refine(FI.out _ (qnpu B1.out m)).mono ?_
 rintro e W3 ⟨rfl,m2,rfl⟩
 go_wp2_with fail
 refine(PR.out _ (qnpu B1.out (m+m2))).mono ?_
 rintro e W4 ⟨rfl,m3,rfl⟩
 go_wp2_with fail
 go_ret
 exact⟨rfl,qnpu B1.out _⟩
end Go.Proofs.YtbklidpadffpgaaGreat
