/- The cells of a packet that is nothing, and of one of which a header tells. Condition: none. -/
import Derived.Deep.LoopGhost
import Derived.Deep.QuietTactic
import Derived.WalkSmall
import Derived.Lib.BitFns
import Derived.Lib.Walk
import Derived.Laws.ResultCell
import Derived.Great.BuildSlice
import Derived.Test.YtbecggefmbpnoaaGreatDoorK03
import Derived.Test.YtbecggefmbpnoaaGreatDoorK04
import Derived.Test.YtbecggefmbpnoaaGreatDoorK08
import Derived.Test.YtbecggefmbpnoaaGreatDoorK05
import Derived.Test.YtbecggefmbpnoaaGreatDoorK06
import Derived.Test.YtbecggefmbpnoaaGreatDoorK10
set_option maxHeartbeats 2000000
set_option maxRecDepth 100000
namespace Go.Proofs.YtbecggefmbpnoaaGreatDoor
open Go.RowKit
theorem q5nr:(Tryz.prog.info? 29).map (·.size)=some 25:=by kernel_rfl
def pkZ:Array Value:=#[.int .i64 0,.bool false,.bool false,.int .i64 0,.int .i64 0,.string ⟨#[]⟩,.string ⟨#[]⟩,.bool false,.int .i64 0,.string ⟨#[]⟩,.bool false,.string ⟨#[]⟩,.bool false,.string ⟨#[]⟩,.bool false,.string ⟨#[]⟩,.string ⟨#[]⟩,.int .i64 0,.bool false,.slice none 0 0,.bool false,.int .i64 0,.slice none 0 0,.slice none 0 0,.slice none 0 0]
theorem qrai(W:World):(zeroValue 29).run Tryz.prog W = .ok (.agg pkZ) W:=by kernel_rfl
theorem qbwp:pkZ.size=25:=rfl
theorem qgtk(A B:Option Addr)(na nb c d:Nat)(l m:List Pr)(w:World)(hA:PL w A l)(hB:PL w B m)(hla:l.length=na)(hlb:m.length=nb)(hN:na≤70000)(hM:nb≤70000) :
 Calls Tryz.prog 42 #[.slice A na c,.slice B nb d] w fun e w'=>e = .returned (.bool (decide (l=m)))∧∃k,w'=w.drewN k:=by
 by_cases hn:na=nb
 ·subst hn
  obtain⟨D,hD⟩:∃D,decide (l=m)=D:=⟨_,rfl⟩
  rw[hD]
  have HD:=Lib.hid hD
  have HA:=Lib.hid hA
  have HB:=Lib.hid hB
  have HLA:=Lib.hid hla
  have HLB:=Lib.hid hlb
  have q0:(na:Int)≤70000:=by omega
  clear hA hB hla hlb hN hM hD
  go_enter Tryz.func42,Tryz.ntmps42
  go_wp2_with fail
  go_loopg [5] na (fun gk i wr=>∃k x:Nat,k≤na∧gk=na - k∧i = .int .i64 (k:Int)∧wr=w.drewN x∧∀j p q,j < k→l[j]? = some p→m[j]? = some q→p=q)
  case atStart=>exact⟨0,0,Nat.zero_le _,rfl,rfl,rfl,fun j p q h=>by omega⟩
  case round=>
   obtain⟨k,x,hk,rfl,rfl,rfl,hS⟩:=hrel
   have HS:=Lib.hid hS
   by_cases hlt:k < na
   ·have hkl:k < l.length:=by rw[HLA.out];exact hlt
    have hkm:k < m.length:=by rw[HLB.out];exact hlt
    obtain⟨p,hp⟩:∃p,l[k]? = some p:=⟨_,List.getElem?_eq_getElem hkl⟩
    obtain⟨q,hq⟩:∃q,m[k]? = some q:=⟨_,List.getElem?_eq_getElem hkm⟩
    obtain⟨ga,ia,rfl,_,a0,a1,a2,a3⟩:=HA.out.at hp
    obtain⟨gb,ib,rfl,_,b0,b1,b2,b3⟩:=HB.out.at hq
    have HP:=Lib.hid hp
    have HQ:=Lib.hid hq
    have HL:=Lib.hid hlt
    have g1:(k:Int) < (na:Int):=by omega
    have hno:p≠q→D=false:=fun h=>by
     rw[←HD.out]
     exact decide_eq_false fun e=>h (by subst e;exact Option.some.inj (HP.out.symm.trans HQ.out))
    have HNO:=Lib.hid hno
    clear hS hkl hkm hp hq hlt hk hno
    rcases qzlf p q with h | h | ⟨h1,h2⟩ | ⟨h1,h2,h3⟩ | ⟨h1,h2,h3,h4⟩
    ·subst h
     generalize p.id=x0 at a0 b0
     generalize ((p.n:Nat):Int)=x1 at a1 b1
     generalize bs p.text=x2 at a2 b2
     generalize bs p.value=x3 at a3 b3
     go_wp2_with fail
     go_quiet (fail)
     go_wp2_with fail
     go_roundg (na - (k+1))
     case measure=>have:=HL.out;omega
     case rel=>
      refine⟨k+1,_,by have:=HL.out;omega,rfl,by go_num,rfl,fun j u v hj hu hv=>?_⟩
      by_cases hjk:j=k
      ·subst hjk
       exact Option.some.inj ((hu.symm.trans HP.out).trans (HQ.out.symm.trans hv))
      ·exact HS.out j u v (by omega) hu hv
    ·have hD:=HNO.out (fun e=>by rw[e] at h;simp at h)
     subst hD
     generalize p.id=x0 at *
     generalize ((p.n:Nat):Int)=x1 at *
     generalize bs p.text=x2 at *
     generalize bs p.value=x3 at *
     generalize q.id=y0 at *
     generalize ((q.n:Nat):Int)=y1 at *
     generalize bs q.text=y2 at *
     generalize bs q.value=y3 at *
     go_wp2_with fail
     go_quiet (fail)
     go_wp2_with fail
     go_ret
     exact⟨rfl,_,qgiq _ _ _⟩
    ·have hD:=HNO.out (fun e=>by rw[e] at h2;simp at h2)
     subst hD
     rw[h1] at a0
     clear h1
     generalize p.id=x0 at *
     generalize ((p.n:Nat):Int)=x1 at *
     generalize bs p.text=x2 at *
     generalize bs p.value=x3 at *
     generalize q.id=y0 at *
     generalize ((q.n:Nat):Int)=y1 at *
     generalize bs q.text=y2 at *
     generalize bs q.value=y3 at *
     go_wp2_with fail
     go_quiet (fail)
     go_wp2_with fail
     go_ret
     exact⟨rfl,_,qgiq _ _ _⟩
    ·have hD:=HNO.out (fun e=>by rw[e] at h3;simp at h3)
     subst hD
     rw[h1] at a0
     rw[h2] at a1
     clear h1 h2
     generalize p.id=x0 at *
     generalize ((p.n:Nat):Int)=x1 at *
     generalize bs p.text=x2 at *
     generalize bs p.value=x3 at *
     generalize q.id=y0 at *
     generalize ((q.n:Nat):Int)=y1 at *
     generalize bs q.text=y2 at *
     generalize bs q.value=y3 at *
     go_wp2_with fail
     go_quiet (fail)
     go_wp2_with fail
     go_ret
     exact⟨rfl,_,qgiq _ _ _⟩
    ·have hD:=HNO.out (fun e=>by rw[e] at h4;simp at h4)
     subst hD
     rw[h1] at a0
     rw[h2] at a1
     rw[h3] at a2
     clear h1 h2 h3
     generalize p.id=x0 at *
     generalize ((p.n:Nat):Int)=x1 at *
     generalize bs p.text=x2 at *
     generalize bs p.value=x3 at *
     generalize q.id=y0 at *
     generalize ((q.n:Nat):Int)=y1 at *
     generalize bs q.text=y2 at *
     generalize bs q.value=y3 at *
     go_wp2_with fail
     go_quiet (fail)
     go_wp2_with fail
     go_ret
     exact⟨rfl,_,qgiq _ _ _⟩
   ·obtain rfl:k=na:=by omega
    have hD:D=true:=by rw[←HD.out];exact decide_eq_true (qs8g HLA.out HLB.out hS)
    subst hD
    clear hS hlt hk
    go_wp2_with fail
    go_ret
    exact⟨rfl,_,rfl⟩
 ·have hD:decide (l=m)=false:=decide_eq_false fun e=>hn (by rw[←hla,←hlb,e])
  have q0:((na:Int) != (nb:Int))=true:=by rw[bne_iff_ne];omega
  rw[hD]
  clear hA hB hla hlb hN hM hD hn
  go_enter Tryz.func42,Tryz.ntmps42
  go_wp2_with fail
  go_ret
  exact⟨rfl,0,rfl⟩
theorem qfzm(A B:Option Addr)(na nb c d:Nat)(l m:List Int)(w:World)(hA:CL w A (ics l))(hB:CL w B (ics m))(hla:l.length=na)(hlb:m.length=nb)(hN:na≤70000)(hM:nb≤70000) :
 Calls Tryz.prog 40 #[.slice A na c,.slice B nb d] w fun e w'=>e = .returned (.bool (decide (l=m)))∧∃k,w'=w.drewN k:=by
 by_cases hn:na=nb
 ·subst hn
  obtain⟨D,hD⟩:∃D,decide (l=m)=D:=⟨_,rfl⟩
  rw[hD]
  have HD:=Lib.hid hD
  have HA:=Lib.hid hA
  have HB:=Lib.hid hB
  have HLA:=Lib.hid hla
  have HLB:=Lib.hid hlb
  have q0:(na:Int)≤70000:=by omega
  clear hA hB hla hlb hN hM hD
  go_enter Tryz.func40,Tryz.ntmps40
  go_wp2_with fail
  go_loopg [5] na (fun gk i wr=>∃k x:Nat,k≤na∧gk=na - k∧i = .int .i64 (k:Int)∧wr=w.drewN x∧∀j p q,j < k→l[j]? = some p→m[j]? = some q→p=q)
  case atStart=>exact⟨0,0,Nat.zero_le _,rfl,rfl,rfl,fun j p q h=>by omega⟩
  case round=>
   obtain⟨k,x,hk,rfl,rfl,rfl,hS⟩:=hrel
   have HS:=Lib.hid hS
   by_cases hlt:k < na
   ·have hkl:k < l.length:=by rw[HLA.out];exact hlt
    have hkm:k < m.length:=by rw[HLB.out];exact hlt
    obtain⟨p,hp⟩:∃p,l[k]? = some p:=⟨_,List.getElem?_eq_getElem hkl⟩
    obtain⟨q,hq⟩:∃q,m[k]? = some q:=⟨_,List.getElem?_eq_getElem hkm⟩
    obtain⟨ga,ia,rfl,_,a0⟩:=HA.out.int hp
    obtain⟨gb,ib,rfl,_,b0⟩:=HB.out.int hq
    have HP:=Lib.hid hp
    have HQ:=Lib.hid hq
    have HL:=Lib.hid hlt
    have g1:(k:Int) < (na:Int):=by omega
    have hno:p≠q→D=false:=fun h=>by
     rw[←HD.out]
     exact decide_eq_false fun e=>h (by subst e;exact Option.some.inj (HP.out.symm.trans HQ.out))
    have HNO:=Lib.hid hno
    clear hS hkl hkm hp hq hlt hk hno
    rcases qd1x p q with h | h
    ·subst h
     go_wp2_with fail
     go_quiet (fail)
     go_wp2_with fail
     go_roundg (na - (k+1))
     case measure=>have:=HL.out;omega
     case rel=>
      refine⟨k+1,_,by have:=HL.out;omega,rfl,by go_num,rfl,fun j u v hj hu hv=>?_⟩
      by_cases hjk:j=k
      ·subst hjk
       exact Option.some.inj ((hu.symm.trans HP.out).trans (HQ.out.symm.trans hv))
      ·exact HS.out j u v (by omega) hu hv
    ·have hD:=HNO.out (fun e=>by rw[e] at h;simp at h)
     subst hD
     go_wp2_with fail
     go_quiet (fail)
     go_wp2_with fail
     go_ret
     exact⟨rfl,_,qgiq _ _ _⟩
   ·obtain rfl:k=na:=by omega
    have hD:D=true:=by rw[←HD.out];exact decide_eq_true (qs8g HLA.out HLB.out hS)
    subst hD
    clear hS hlt hk
    go_wp2_with fail
    go_ret
    exact⟨rfl,_,rfl⟩
 ·have hD:decide (l=m)=false:=decide_eq_false fun e=>hn (by rw[←hla,←hlb,e])
  have q0:((na:Int) != (nb:Int))=true:=by rw[bne_iff_ne];omega
  rw[hD]
  clear hA hB hla hlb hN hM hD hn
  go_enter Tryz.func40,Tryz.ntmps40
  go_wp2_with fail
  go_ret
  exact⟨rfl,0,rfl⟩
theorem qoah(A B:Option Addr)(na nb c d:Nat)(l m:List Fi)(w:World)(hA:CL w A (fcs l))(hB:CL w B (fcs m))(hla:l.length=na)(hlb:m.length=nb)(hN:na≤70000)(hM:nb≤70000) :
 Calls Tryz.prog 41 #[.slice A na c,.slice B nb d] w fun e w'=>e = .returned (.bool (decide (l=m)))∧∃k,w'=w.drewN k:=by
 by_cases hn:na=nb
 ·subst hn
  obtain⟨D,hD⟩:∃D,decide (l=m)=D:=⟨_,rfl⟩
  rw[hD]
  have HD:=Lib.hid hD
  have HA:=Lib.hid hA
  have HB:=Lib.hid hB
  have HLA:=Lib.hid hla
  have HLB:=Lib.hid hlb
  have q0:(na:Int)≤70000:=by omega
  clear hA hB hla hlb hN hM hD
  go_enter Tryz.func41,Tryz.ntmps41
  go_wp2_with fail
  go_loopg [5] na (fun gk i wr=>∃k x:Nat,k≤na∧gk=na - k∧i = .int .i64 (k:Int)∧wr=w.drewN x∧∀j p q,j < k→l[j]? = some p→m[j]? = some q→p=q)
  case atStart=>exact⟨0,0,Nat.zero_le _,rfl,rfl,rfl,fun j p q h=>by omega⟩
  case round=>
   obtain⟨k,x,hk,rfl,rfl,rfl,hS⟩:=hrel
   have HS:=Lib.hid hS
   by_cases hlt:k < na
   ·have hkl:k < l.length:=by rw[HLA.out];exact hlt
    have hkm:k < m.length:=by rw[HLB.out];exact hlt
    obtain⟨p,hp⟩:∃p,l[k]? = some p:=⟨_,List.getElem?_eq_getElem hkl⟩
    obtain⟨q,hq⟩:∃q,m[k]? = some q:=⟨_,List.getElem?_eq_getElem hkm⟩
    obtain⟨ga,ia,rfl,_,a0,a1,a2,a3,a4⟩:=HA.out.fi hp
    obtain⟨gb,ib,rfl,_,b0,b1,b2,b3,b4⟩:=HB.out.fi hq
    have HP:=Lib.hid hp
    have HQ:=Lib.hid hq
    have HL:=Lib.hid hlt
    have g1:(k:Int) < (na:Int):=by omega
    have hno:p≠q→D=false:=fun h=>by
     rw[←HD.out]
     exact decide_eq_false fun e=>h (by subst e;exact Option.some.inj (HP.out.symm.trans HQ.out))
    have HNO:=Lib.hid hno
    clear hS hkl hkm hp hq hlt hk hno
    rcases qpuj p q with h | h | ⟨h1,h2⟩ | ⟨h1,h2,h3⟩ | ⟨h1,h2,h3,h4⟩ | ⟨h1,h2,h3,h4,h5⟩
    ·subst h
     generalize bs p.topic=x0 at a0 b0
     generalize p.qos=x1 at a1 b1
     generalize p.noLocal=x2 at a2 b2
     generalize p.asPub=x3 at a3 b3
     generalize p.handling=x4 at a4 b4
     go_wp2_with fail
     go_quiet (fail)
     go_wp2_with fail
     go_roundg (na - (k+1))
     case measure=>have:=HL.out;omega
     case rel=>
      refine⟨k+1,_,by have:=HL.out;omega,rfl,by go_num,rfl,fun j u v hj hu hv=>?_⟩
      by_cases hjk:j=k
      ·subst hjk
       exact Option.some.inj ((hu.symm.trans HP.out).trans (HQ.out.symm.trans hv))
      ·exact HS.out j u v (by omega) hu hv
    ·have hD:=HNO.out (fun e=>by rw[e] at h;simp at h)
     subst hD
     generalize bs p.topic=x0 at *
     generalize p.qos=x1 at *
     generalize p.noLocal=x2 at *
     generalize p.asPub=x3 at *
     generalize p.handling=x4 at *
     generalize bs q.topic=y0 at *
     generalize q.qos=y1 at *
     generalize q.noLocal=y2 at *
     generalize q.asPub=y3 at *
     generalize q.handling=y4 at *
     go_wp2_with fail
     go_quiet (fail)
     go_wp2_with fail
     go_ret
     exact⟨rfl,_,qgiq _ _ _⟩
    ·have hD:=HNO.out (fun e=>by rw[e] at h2;simp at h2)
     subst hD
     rw[h1] at a0
     clear h1
     generalize bs p.topic=x0 at *
     generalize p.qos=x1 at *
     generalize p.noLocal=x2 at *
     generalize p.asPub=x3 at *
     generalize p.handling=x4 at *
     generalize bs q.topic=y0 at *
     generalize q.qos=y1 at *
     generalize q.noLocal=y2 at *
     generalize q.asPub=y3 at *
     generalize q.handling=y4 at *
     go_wp2_with fail
     go_quiet (fail)
     go_wp2_with fail
     go_ret
     exact⟨rfl,_,qgiq _ _ _⟩
    ·have hD:=HNO.out (fun e=>by rw[e] at h3;simp at h3)
     subst hD
     rw[h1] at a0
     rw[h2] at a1
     clear h1 h2
     generalize bs p.topic=x0 at *
     generalize p.qos=x1 at *
     generalize p.noLocal=x2 at *
     generalize p.asPub=x3 at *
     generalize p.handling=x4 at *
     generalize bs q.topic=y0 at *
     generalize q.qos=y1 at *
     generalize q.noLocal=y2 at *
     generalize q.asPub=y3 at *
     generalize q.handling=y4 at *
     go_wp2_with fail
     go_quiet (fail)
     go_wp2_with fail
     go_ret
     exact⟨rfl,_,qgiq _ _ _⟩
    ·have hD:=HNO.out (fun e=>by rw[e] at h4;simp at h4)
     subst hD
     rw[h1] at a0
     rw[h2] at a1
     rw[h3] at a2
     clear h1 h2 h3
     generalize bs p.topic=x0 at *
     generalize p.qos=x1 at *
     generalize p.noLocal=x2 at *
     generalize p.asPub=x3 at *
     generalize p.handling=x4 at *
     generalize bs q.topic=y0 at *
     generalize q.qos=y1 at *
     generalize q.noLocal=y2 at *
     generalize q.asPub=y3 at *
     generalize q.handling=y4 at *
     go_wp2_with fail
     go_quiet (fail)
     go_wp2_with fail
     go_ret
     exact⟨rfl,_,qgiq _ _ _⟩
    ·have hD:=HNO.out (fun e=>by rw[e] at h5;simp at h5)
     subst hD
     rw[h1] at a0
     rw[h2] at a1
     rw[h3] at a2
     rw[h4] at a3
     clear h1 h2 h3 h4
     generalize bs p.topic=x0 at *
     generalize p.qos=x1 at *
     generalize p.noLocal=x2 at *
     generalize p.asPub=x3 at *
     generalize p.handling=x4 at *
     generalize bs q.topic=y0 at *
     generalize q.qos=y1 at *
     generalize q.noLocal=y2 at *
     generalize q.asPub=y3 at *
     generalize q.handling=y4 at *
     go_wp2_with fail
     go_quiet (fail)
     go_wp2_with fail
     go_ret
     exact⟨rfl,_,qgiq _ _ _⟩
   ·obtain rfl:k=na:=by omega
    have hD:D=true:=by rw[←HD.out];exact decide_eq_true (qs8g HLA.out HLB.out hS)
    subst hD
    clear hS hlt hk
    go_wp2_with fail
    go_ret
    exact⟨rfl,_,rfl⟩
 ·have hD:decide (l=m)=false:=decide_eq_false fun e=>hn (by rw[←hla,←hlb,e])
  have q0:((na:Int) != (nb:Int))=true:=by rw[bne_iff_ne];omega
  rw[hD]
  clear hA hB hla hlb hN hM hD hn
  go_enter Tryz.func41,Tryz.ntmps41
  go_wp2_with fail
  go_ret
  exact⟨rfl,0,rfl⟩
theorem q08q(t u:ByteArray)(q:Int)(r:Bool)(A B:Option Addr)(n c d:Nat)(l:List Pr)(w:World)(hA:PL w A l)(hB:PL w B l)(hn:l.length=n)(hl:n≤70000) :
 Calls Tryz.prog 39 #[.agg #[.string t,.string u,.int .i64 q,.bool r,.slice A n c],.agg #[.string t,.string u,.int .i64 q,.bool r,.slice B n d]] w fun e w'=>e = .returned (.bool true)∧Below w.heap.size w w':=by
 have HB:=Lib.hid (fun o o'=>qxh2 (qybm (w:=w) o) (qybm o'))
 have EQ:=Lib.hid (fun o o'=>qgtk A B n n c d l l ((w.alloc o).alloc o') (hA.below (qxh2 (qybm _) (qybm _))) (hB.below (qxh2 (qybm _) (qybm _))) hn hn hl hl)
 simp only[decide_true] at EQ
 clear hA hB hn hl
 go_enter Tryz.func39,Tryz.ntmps39
 go_wp2_with fail
 refine(EQ.out _ _).mono ?_
 rintro e w1 ⟨rfl,m,rfl⟩
 go_wp2_with fail
 go_ret
 exact⟨rfl,qnpu (HB.out _ _) m⟩
theorem qbsf(p:Pk)(a b:Ad)(w:World)(hp:PkAt w p a)(hq:PkAt w p b)(h1:p.codes.length≤70000)(h2:p.filters.length≤70000)(h3:p.props.length≤70000)(h4:p.wProps.length≤70000) :
 Calls Tryz.prog 12 #[pkV p a,pkV p b] w fun e w'=>e = .returned (.bool true)∧Below w.heap.size w w':=by
 have hbx:Below w.heap.size w ((w.alloc (.cells (pkC p a) 29)).alloc (.cells (pkC p b) 29)):=qxh2 (qybm _) (qybm _)
 have HB:=Lib.hid hbx
 have WL:=fun W (hb:Below w.heap.size w W)=>q08q (bs p.wTopic) (bs p.wPayload) p.wQos p.wRetain a.w b.w p.wProps.length a.wc b.wc p.wProps W (hp.w.below hb) (hq.w.below hb) rfl h4
 have CO:=fun W (hb:Below w.heap.size w W)=>qfzm a.cs b.cs _ _ a.cc b.cc p.codes p.codes W (hp.cs.below hb) (hq.cs.below hb) rfl rfl h1 h1
 have FI:=fun W (hb:Below w.heap.size w W)=>qoah a.fs b.fs _ _ a.fc b.fc p.filters p.filters W (hp.fs.below hb) (hq.fs.below hb) rfl rfl h2 h2
 have PR:=fun W (hb:Below w.heap.size w W)=>qgtk a.ps b.ps _ _ a.pc b.pc p.props p.props W (hp.ps.below hb) (hq.ps.below hb) rfl rfl h3 h3
 simp only[decide_true] at CO FI PR
 have GA:=Lib.hid (heap_alloc2_old w (.cells (pkC p a) 29) (.cells (pkC p b) 29))
 have GB:=Lib.hid (heap_alloc2_new w (.cells (pkC p a) 29) (.cells (pkC p b) 29))
 clear hbx hp hq h1 h2 h3 h4
 unfold pkV
 have c0:(pkC p a)[0]? = some (.int .i64 p.kind):=rfl
 have c1:(pkC p a)[1]? = some (.bool p.dup):=rfl
 have c2:(pkC p a)[2]? = some (.bool p.retain):=rfl
 have c3:(pkC p a)[3]? = some (.int .i64 p.qos):=rfl
 have c4:(pkC p a)[4]? = some (.int .i64 p.id):=rfl
 have c5:(pkC p a)[5]? = some (.string (bs p.topic)):=rfl
 have c6:(pkC p a)[6]? = some (.string (bs p.payload)):=rfl
 have c7:(pkC p a)[7]? = some (.bool p.clean):=rfl
 have c8:(pkC p a)[8]? = some (.int .i64 p.keep):=rfl
 have c9:(pkC p a)[9]? = some (.string (bs p.client)):=rfl
 have c10:(pkC p a)[10]? = some (.bool p.hasUser):=rfl
 have c11:(pkC p a)[11]? = some (.string (bs p.user)):=rfl
 have c12:(pkC p a)[12]? = some (.bool p.hasPass):=rfl
 have c13:(pkC p a)[13]? = some (.string (bs p.pass)):=rfl
 have c14:(pkC p a)[14]? = some (.bool p.hasWill):=rfl
 have c15:(pkC p a)[15]? = some (.string (bs p.wTopic)):=rfl
 have c16:(pkC p a)[16]? = some (.string (bs p.wPayload)):=rfl
 have c17:(pkC p a)[17]? = some (.int .i64 p.wQos):=rfl
 have c18:(pkC p a)[18]? = some (.bool p.wRetain):=rfl
 have c19:(pkC p a)[19]? = some (.slice a.w p.wProps.length a.wc):=rfl
 have c20:(pkC p a)[20]? = some (.bool p.session):=rfl
 have c21:(pkC p a)[21]? = some (.int .i64 p.code):=rfl
 have c22:(pkC p a)[22]? = some (.slice a.cs p.codes.length a.cc):=rfl
 have c23:(pkC p a)[23]? = some (.slice a.fs p.filters.length a.fc):=rfl
 have c24:(pkC p a)[24]? = some (.slice a.ps p.props.length a.pc):=rfl
 have e0:(pkC p b)[0]? = some (.int .i64 p.kind):=rfl
 have e1:(pkC p b)[1]? = some (.bool p.dup):=rfl
 have e2:(pkC p b)[2]? = some (.bool p.retain):=rfl
 have e3:(pkC p b)[3]? = some (.int .i64 p.qos):=rfl
 have e4:(pkC p b)[4]? = some (.int .i64 p.id):=rfl
 have e5:(pkC p b)[5]? = some (.string (bs p.topic)):=rfl
 have e6:(pkC p b)[6]? = some (.string (bs p.payload)):=rfl
 have e7:(pkC p b)[7]? = some (.bool p.clean):=rfl
 have e8:(pkC p b)[8]? = some (.int .i64 p.keep):=rfl
 have e9:(pkC p b)[9]? = some (.string (bs p.client)):=rfl
 have e10:(pkC p b)[10]? = some (.bool p.hasUser):=rfl
 have e11:(pkC p b)[11]? = some (.string (bs p.user)):=rfl
 have e12:(pkC p b)[12]? = some (.bool p.hasPass):=rfl
 have e13:(pkC p b)[13]? = some (.string (bs p.pass)):=rfl
 have e14:(pkC p b)[14]? = some (.bool p.hasWill):=rfl
 have e15:(pkC p b)[15]? = some (.string (bs p.wTopic)):=rfl
 have e16:(pkC p b)[16]? = some (.string (bs p.wPayload)):=rfl
 have e17:(pkC p b)[17]? = some (.int .i64 p.wQos):=rfl
 have e18:(pkC p b)[18]? = some (.bool p.wRetain):=rfl
 have e19:(pkC p b)[19]? = some (.slice b.w p.wProps.length b.wc):=rfl
 have e20:(pkC p b)[20]? = some (.bool p.session):=rfl
 have e21:(pkC p b)[21]? = some (.int .i64 p.code):=rfl
 have e22:(pkC p b)[22]? = some (.slice b.cs p.codes.length b.cc):=rfl
 have e23:(pkC p b)[23]? = some (.slice b.fs p.filters.length b.fc):=rfl
 have e24:(pkC p b)[24]? = some (.slice b.ps p.props.length b.pc):=rfl
 generalize pkC p a=C at *
 generalize pkC p b=E at *
 generalize p.kind=v0 at *
 generalize p.dup=v1 at *
 generalize p.retain=v2 at *
 generalize p.qos=v3 at *
 generalize p.id=v4 at *
 generalize bs p.topic=v5 at *
 generalize bs p.payload=v6 at *
 generalize p.clean=v7 at *
 generalize p.keep=v8 at *
 generalize bs p.client=v9 at *
 generalize p.hasUser=v10 at *
 generalize bs p.user=v11 at *
 generalize p.hasPass=v12 at *
 generalize bs p.pass=v13 at *
 generalize p.hasWill=v14 at *
 generalize bs p.wTopic=v15 at *
 generalize bs p.wPayload=v16 at *
 generalize p.wQos=v17 at *
 generalize p.wRetain=v18 at *
 generalize p.session=v20 at *
 generalize p.code=v21 at *
 generalize p.wProps.length=n19 at *
 generalize p.codes.length=n22 at *
 generalize p.filters.length=n23 at *
 generalize p.props.length=n24 at *
 have WL:=Lib.hid WL
 have CO:=Lib.hid CO
 have FI:=Lib.hid FI
 have PR:=Lib.hid PR
 go_enter Tryz.func12,Tryz.ntmps12
 go_wp2_with fail
 refine(WL.out _ HB.out).mono ?_
 rintro e W1 ⟨rfl,hb⟩
 have B1:=Lib.hid (qxh2 HB.out hb)
 have GA1:=Lib.hid ((hb.block _ (lt_of_block GA.out)).trans GA.out)
 have GB1:=Lib.hid ((hb.block _ (lt_of_block GB.out)).trans GB.out)
 clear hb
 have c0':W1.cell? ⟨w.heap.size,0,none⟩=_:=(cell_of_row _ _ 0 _ _ _ GA1.out).trans c0
 have c1':W1.cell? ⟨w.heap.size,1,none⟩=_:=(cell_of_row _ _ 1 _ _ _ GA1.out).trans c1
 have c2':W1.cell? ⟨w.heap.size,2,none⟩=_:=(cell_of_row _ _ 2 _ _ _ GA1.out).trans c2
 have c3':W1.cell? ⟨w.heap.size,3,none⟩=_:=(cell_of_row _ _ 3 _ _ _ GA1.out).trans c3
 have c4':W1.cell? ⟨w.heap.size,4,none⟩=_:=(cell_of_row _ _ 4 _ _ _ GA1.out).trans c4
 have c5':W1.cell? ⟨w.heap.size,5,none⟩=_:=(cell_of_row _ _ 5 _ _ _ GA1.out).trans c5
 have c6':W1.cell? ⟨w.heap.size,6,none⟩=_:=(cell_of_row _ _ 6 _ _ _ GA1.out).trans c6
 have c7':W1.cell? ⟨w.heap.size,7,none⟩=_:=(cell_of_row _ _ 7 _ _ _ GA1.out).trans c7
 have c8':W1.cell? ⟨w.heap.size,8,none⟩=_:=(cell_of_row _ _ 8 _ _ _ GA1.out).trans c8
 have c9':W1.cell? ⟨w.heap.size,9,none⟩=_:=(cell_of_row _ _ 9 _ _ _ GA1.out).trans c9
 have c10':W1.cell? ⟨w.heap.size,10,none⟩=_:=(cell_of_row _ _ 10 _ _ _ GA1.out).trans c10
 have c11':W1.cell? ⟨w.heap.size,11,none⟩=_:=(cell_of_row _ _ 11 _ _ _ GA1.out).trans c11
 have c12':W1.cell? ⟨w.heap.size,12,none⟩=_:=(cell_of_row _ _ 12 _ _ _ GA1.out).trans c12
 have c13':W1.cell? ⟨w.heap.size,13,none⟩=_:=(cell_of_row _ _ 13 _ _ _ GA1.out).trans c13
 have c14':W1.cell? ⟨w.heap.size,14,none⟩=_:=(cell_of_row _ _ 14 _ _ _ GA1.out).trans c14
 have c15':W1.cell? ⟨w.heap.size,15,none⟩=_:=(cell_of_row _ _ 15 _ _ _ GA1.out).trans c15
 have c16':W1.cell? ⟨w.heap.size,16,none⟩=_:=(cell_of_row _ _ 16 _ _ _ GA1.out).trans c16
 have c17':W1.cell? ⟨w.heap.size,17,none⟩=_:=(cell_of_row _ _ 17 _ _ _ GA1.out).trans c17
 have c18':W1.cell? ⟨w.heap.size,18,none⟩=_:=(cell_of_row _ _ 18 _ _ _ GA1.out).trans c18
 have c19':W1.cell? ⟨w.heap.size,19,none⟩=_:=(cell_of_row _ _ 19 _ _ _ GA1.out).trans c19
 have c20':W1.cell? ⟨w.heap.size,20,none⟩=_:=(cell_of_row _ _ 20 _ _ _ GA1.out).trans c20
 have c21':W1.cell? ⟨w.heap.size,21,none⟩=_:=(cell_of_row _ _ 21 _ _ _ GA1.out).trans c21
 have c22':W1.cell? ⟨w.heap.size,22,none⟩=_:=(cell_of_row _ _ 22 _ _ _ GA1.out).trans c22
 have c23':W1.cell? ⟨w.heap.size,23,none⟩=_:=(cell_of_row _ _ 23 _ _ _ GA1.out).trans c23
 have c24':W1.cell? ⟨w.heap.size,24,none⟩=_:=(cell_of_row _ _ 24 _ _ _ GA1.out).trans c24
 have e0':W1.cell? ⟨w.heap.size+1,0,none⟩=_:=(cell_of_row _ _ 0 _ _ _ GB1.out).trans e0
 have e1':W1.cell? ⟨w.heap.size+1,1,none⟩=_:=(cell_of_row _ _ 1 _ _ _ GB1.out).trans e1
 have e2':W1.cell? ⟨w.heap.size+1,2,none⟩=_:=(cell_of_row _ _ 2 _ _ _ GB1.out).trans e2
 have e3':W1.cell? ⟨w.heap.size+1,3,none⟩=_:=(cell_of_row _ _ 3 _ _ _ GB1.out).trans e3
 have e4':W1.cell? ⟨w.heap.size+1,4,none⟩=_:=(cell_of_row _ _ 4 _ _ _ GB1.out).trans e4
 have e5':W1.cell? ⟨w.heap.size+1,5,none⟩=_:=(cell_of_row _ _ 5 _ _ _ GB1.out).trans e5
 have e6':W1.cell? ⟨w.heap.size+1,6,none⟩=_:=(cell_of_row _ _ 6 _ _ _ GB1.out).trans e6
 have e7':W1.cell? ⟨w.heap.size+1,7,none⟩=_:=(cell_of_row _ _ 7 _ _ _ GB1.out).trans e7
 have e8':W1.cell? ⟨w.heap.size+1,8,none⟩=_:=(cell_of_row _ _ 8 _ _ _ GB1.out).trans e8
 have e9':W1.cell? ⟨w.heap.size+1,9,none⟩=_:=(cell_of_row _ _ 9 _ _ _ GB1.out).trans e9
 have e10':W1.cell? ⟨w.heap.size+1,10,none⟩=_:=(cell_of_row _ _ 10 _ _ _ GB1.out).trans e10
 have e11':W1.cell? ⟨w.heap.size+1,11,none⟩=_:=(cell_of_row _ _ 11 _ _ _ GB1.out).trans e11
 have e12':W1.cell? ⟨w.heap.size+1,12,none⟩=_:=(cell_of_row _ _ 12 _ _ _ GB1.out).trans e12
 have e13':W1.cell? ⟨w.heap.size+1,13,none⟩=_:=(cell_of_row _ _ 13 _ _ _ GB1.out).trans e13
 have e14':W1.cell? ⟨w.heap.size+1,14,none⟩=_:=(cell_of_row _ _ 14 _ _ _ GB1.out).trans e14
 have e15':W1.cell? ⟨w.heap.size+1,15,none⟩=_:=(cell_of_row _ _ 15 _ _ _ GB1.out).trans e15
 have e16':W1.cell? ⟨w.heap.size+1,16,none⟩=_:=(cell_of_row _ _ 16 _ _ _ GB1.out).trans e16
 have e17':W1.cell? ⟨w.heap.size+1,17,none⟩=_:=(cell_of_row _ _ 17 _ _ _ GB1.out).trans e17
 have e18':W1.cell? ⟨w.heap.size+1,18,none⟩=_:=(cell_of_row _ _ 18 _ _ _ GB1.out).trans e18
 have e19':W1.cell? ⟨w.heap.size+1,19,none⟩=_:=(cell_of_row _ _ 19 _ _ _ GB1.out).trans e19
 have e20':W1.cell? ⟨w.heap.size+1,20,none⟩=_:=(cell_of_row _ _ 20 _ _ _ GB1.out).trans e20
 have e21':W1.cell? ⟨w.heap.size+1,21,none⟩=_:=(cell_of_row _ _ 21 _ _ _ GB1.out).trans e21
 have e22':W1.cell? ⟨w.heap.size+1,22,none⟩=_:=(cell_of_row _ _ 22 _ _ _ GB1.out).trans e22
 have e23':W1.cell? ⟨w.heap.size+1,23,none⟩=_:=(cell_of_row _ _ 23 _ _ _ GB1.out).trans e23
 have e24':W1.cell? ⟨w.heap.size+1,24,none⟩=_:=(cell_of_row _ _ 24 _ _ _ GB1.out).trans e24
 clear c0 c1 c2 c3 c4 c5 c6 c7 c8 c9 c10 c11 c12 c13 c14 c15 c16 c17 c18 c19 c20 c21 c22 c23 c24 e0 e1 e2 e3 e4 e5 e6 e7 e8 e9 e10 e11 e12 e13 e14 e15 e16 e17 e18 e19 e20 e21 e22 e23 e24
 go_wp2_with fail
 refine(CO.out _ B1.out).mono ?_
 rintro e W2 ⟨rfl,m,rfl⟩
 go_wp2_with fail
 refine(FI.out _ (qnpu B1.out m)).mono ?_
 rintro e W3 ⟨rfl,m2,rfl⟩
 go_wp2_with fail
 refine(PR.out _ (qnpu B1.out (m+m2))).mono ?_
 rintro e W4 ⟨rfl,m3,rfl⟩
 go_wp2_with fail
 go_ret
 exact⟨rfl,qnpu B1.out _⟩
def qymj(l:List Pr):Nat:=(l.map fun p=>p.text.length+p.value.length).sum
theorem qoqr(l:List Pr)(p:Pr):qymj (l++[p])=qymj l+p.text.length+p.value.length:=by simp[qymj];omega
def q2y5(l:List Pr):Bool:=decide (l.length≤1010)&&decide (qymj l≤140000)
theorem qv17(A:Option Addr)(c:Nat)(w:World) :
 Calls Tryz.prog 91 #[.slice A 0 c] w fun e w'=>e = .returned (.int .i64 0)∧∃m,w'=w.drewN m:=by
 go_enter Tryz.func91,Tryz.ntmps91
 go_wp2
 refine wp_loop_rounds 1 ?_
 rw[rounds_succ]
 go_wp2
 go_ret
 exact⟨rfl,0,rfl⟩
theorem q8s3(g i c:Nat)(l:List Pr)(w:World)(ha:PL w (some ⟨g,i,none⟩) l)(hl:l.length≤1010)(hm:∀p∈l,p.text.length≤140737488351232∧p.value.length≤140737488351232) :
 Calls Tryz.prog 91 #[.slice (some ⟨g,i,none⟩) l.length c] w fun e w'=>e = .returned (.int .i64 ((qymj l:Nat):Int))∧∃m,w'=w.drewN m:=by
 have HA:=Lib.hid ha
 have HM:=Lib.hid hm
 obtain⟨n,hn⟩:∃n,l.length=n:=⟨_,rfl⟩
 have HN:=Lib.hid hn
 rw[hn] at hl ⊢
 clear ha hm hn
 have hl':(n:Int)≤1010:=by omega
 obtain⟨V,hV⟩:∃V,qymj l=V:=⟨_,rfl⟩
 rw[hV]
 have HV:=Lib.hid hV
 clear hV
 go_enter Tryz.func91,Tryz.ntmps91
 go_wp2
 go_loopg [4,3] n (fun gk s4 s3 wr=>∃k t m:Nat,k≤n∧gk=n - k∧s4 = .int .i64 (k:Int)∧s3 = .int .i64 (t:Int)∧t=qymj (l.take k)∧t≤k*281474976710656∧wr=w.drewN m)
 case atStart=>exact⟨0,0,0,by omega,by omega,rfl,rfl,rfl,by omega,rfl⟩
 case round=>
  obtain⟨k,t,m,hk,hgk,rfl,rfl,ht,ht2,rfl⟩:=hrel
  by_cases hlt:k < n
  ·have hkl:k < l.length:=by rw[HN.out];exact hlt
   obtain⟨p,hp⟩:∃p,l[k]? = some p:=⟨_,List.getElem?_eq_getElem hkl⟩
   obtain⟨g',i',e',_,a0,a1,a2,a3⟩:=HA.out.at hp
   cases e'
   have htk:l.take (k+1)=l.take k++[p]:=by rw[List.take_add_one,hp];rfl
   have hpm:=HM.out p (List.mem_of_getElem? hp)
   have ht3:=qoqr (l.take k) p
   rw[←htk,←ht] at ht3
   obtain⟨x,hx⟩:∃x:Int,((bs p.text).size:Int)=x:=⟨_,rfl⟩
   obtain⟨y,hy⟩:∃x:Int,((bs p.value).size:Int)=x:=⟨_,rfl⟩
   have z1:=qkrc p.text
   have z2:=qkrc p.value
   obtain⟨u,hu⟩:∃u,qymj (l.take (k+1))=u:=⟨_,rfl⟩
   rw[hu] at ht3
   have w1:IntKind.i64.wrap ((t:Int)+x)=(t:Int)+x:=by simp only[IntKind.wrap_i64];omega
   have w2:IntKind.i64.wrap ((t:Int)+x+y)=(u:Int):=by simp only[IntKind.wrap_i64];omega
   have hu2:u≤(k+1)*281474976710656:=by omega
   generalize bs p.text=x2 at *
   generalize bs p.value=x3 at *
   have g1:(k:Int) < (n:Int):=by omega
   have HU:=Lib.hid hu
   have HU2:=Lib.hid hu2
   clear a0 a1 hp hkl htk hpm ht3 z1 z2 hu hu2 ht ht2
   go_wp2
   go_quiet (fail)
   go_wp2
   go_roundg (n - (k+1))
   case measure=>omega
   case rel=>exact⟨k+1,u,_,by omega,rfl,by go_num,rfl,HU.out.symm,HU2.out,rfl⟩
  ·obtain rfl:k=n:=by omega
   have ht1:l.take k=l:=List.take_of_length_le (by rw[HN.out];omega)
   rw[ht1,HV.out] at ht
   subst ht
   clear ht2
   go_wp2
   go_ret
   exact⟨rfl,m,rfl⟩
theorem q3f7(A:Option Addr)(n c:Nat)(l:List Pr)(w:World)(ha:PL w A l)(hn:l.length=n)(hm:∀p∈l,p.text.length≤140737488351232∧p.value.length≤140737488351232) :
 Calls Tryz.prog 50 #[.slice A n c] w fun e w'=>e = .returned (.bool (q2y5 l))∧∃m,w'=w.drewN m:=by
 unfold q2y5
 rw[hn]
 by_cases h1:n≤1010
 ·rw[decide_eq_true h1,Bool.true_and]
  have WT:Calls Tryz.prog 91 #[.slice A n c] w fun e w'=>e = .returned (.int .i64 ((qymj l:Nat):Int))∧∃m,w'=w.drewN m:=by
   by_cases h0:l=[]
   ·subst h0
    obtain rfl:0=n:=hn
    exact qv17 A c w
   ·obtain⟨g,i,rfl,_⟩:=ha.addr h0
    subst hn
    exact q8s3 g i c l w ha h1 hm
  have g1:(n:Int)≤1010:=by omega
  have WT:=Lib.hid WT
  obtain⟨B,hB⟩:∃B,decide (qymj l≤140000)=B:=⟨_,rfl⟩
  rw[hB]
  have HB:=Lib.hid (show decide (((qymj l:Nat):Int)≤140000)=B by rw[←hB,decide_eq_decide];omega)
  generalize ((qymj l:Nat):Int)=t at *
  clear ha hm h1 hn hB
  go_enter Tryz.func50,Tryz.ntmps50
  go_wp2_with fail
  refine(WT.out).mono ?_
  rintro e w1 ⟨rfl,m,rfl⟩
  go_wp2_with fail
  go_ret
  exact⟨congrArg (fun b=>Ending.returned (Value.bool b)) HB.out,m,rfl⟩
 ·rw[decide_eq_false h1,Bool.false_and]
  have g1:¬(n:Int)≤1010:=by omega
  clear ha hm h1 hn
  go_enter Tryz.func50,Tryz.ntmps50
  go_wp2_with fail
  go_ret
  exact⟨rfl,0,rfl⟩
def qnlp(l:List Fi):Nat:=(l.map fun f=>f.topic.length).sum
theorem q8f1(l:List Fi)(f:Fi):qnlp (l++[f])=qnlp l+f.topic.length:=by simp[qnlp]
def q3em(p:Pk):Nat:=p.topic.length+p.payload.length+p.client.length+p.user.length+p.pass.length+p.wTopic.length+p.wPayload.length
def qa3g(p:Pk):Bool:=q2y5 p.props&&q2y5 p.wProps&&decide (p.codes.length≤60)&&decide (p.filters.length≤60)&&decide (q3em p+qnlp p.filters≤140000)
theorem q2qrt{p:Pk}(h:qa3g p=true):p.codes.length≤60∧p.filters.length≤60∧p.props.length≤1010∧p.wProps.length≤1010:=by
 unfold qa3g q2y5 at h
 simp only[Bool.and_eq_true,decide_eq_true_eq] at h
 omega
theorem q1dl(p:Pk)(a:Ad)(w:World)(hp:PkAt w p a)(ok:PkOk p) :
 Calls Tryz.prog 16 #[pkV p a] w fun e w'=>e = .returned (.bool (qa3g p))∧Below w.heap.size w w':=by
 have HP:=Lib.hid hp
 have OK:=Lib.hid ok
 have hbx:Below w.heap.size w (w.alloc (.cells (pkC p a) 29)):=qybm _
 have L1:=fun m=>q3f7 a.ps _ a.pc p.props ((w.alloc (.cells (pkC p a) 29)).drewN m) (HP.out.ps.below (qnpu hbx m)) rfl (fun x hx=>(OK.out.pps x hx).2)
 have L2:=fun m=>q3f7 a.w _ a.wc p.wProps ((w.alloc (.cells (pkC p a) 29)).drewN m) (HP.out.w.below (qnpu hbx m)) rfl (fun x hx=>(OK.out.wps x hx).2)
 have HB:=Lib.hid (fun m=>qnpu hbx m)
 have HF:=Lib.hid (fun m=>HP.out.fs.below (qnpu hbx m))
 clear hbx hp ok
 unfold pkV
 have c5:(pkC p a)[5]? = some (.string (bs p.topic)):=rfl
 have c6:(pkC p a)[6]? = some (.string (bs p.payload)):=rfl
 have c9:(pkC p a)[9]? = some (.string (bs p.client)):=rfl
 have c11:(pkC p a)[11]? = some (.string (bs p.user)):=rfl
 have c13:(pkC p a)[13]? = some (.string (bs p.pass)):=rfl
 have c15:(pkC p a)[15]? = some (.string (bs p.wTopic)):=rfl
 have c16:(pkC p a)[16]? = some (.string (bs p.wPayload)):=rfl
 have c19:(pkC p a)[19]? = some (.slice a.w p.wProps.length a.wc):=rfl
 have c22:(pkC p a)[22]? = some (.slice a.cs p.codes.length a.cc):=rfl
 have c23:(pkC p a)[23]? = some (.slice a.fs p.filters.length a.fc):=rfl
 have c24:(pkC p a)[24]? = some (.slice a.ps p.props.length a.pc):=rfl
 generalize pkC p a=C at *
 have L1:=Lib.hid L1
 have L2:=Lib.hid L2
 obtain⟨R,hR⟩:∃R,qa3g p=R:=⟨_,rfl⟩
 rw[hR]
 unfold qa3g at hR
 have HR:=Lib.hid hR
 clear hR
 cases hl1:q2y5 p.props
 ·have hr:R=false:=by rw[←HR.out,hl1];rfl
  rw[hl1] at L1
  subst hr
  clear hl1
  go_enter Tryz.func16,Tryz.ntmps16
  go_wp2_with fail
  refine(L1.out 0).mono ?_
  rintro e w1 ⟨rfl,m,rfl⟩
  go_wp2_with fail
  go_ret
  exact⟨rfl,HB.out _⟩
 rw[hl1] at L1
 cases hl2:q2y5 p.wProps
 ·have hr:R=false:=by rw[←HR.out,hl1,hl2];rfl
  rw[hl2] at L2
  subst hr
  clear hl1 hl2
  go_enter Tryz.func16,Tryz.ntmps16
  go_wp2_with fail
  refine(L1.out 0).mono ?_
  rintro e w1 ⟨rfl,m,rfl⟩
  go_wp2_with fail
  refine(L2.out _).mono ?_
  rintro e w1 ⟨rfl,m',rfl⟩
  go_wp2_with fail
  go_ret
  exact⟨rfl,by have:=HB.out (m+m');exact this⟩
 rw[hl2] at L2
 by_cases h3:p.codes.length≤60
 ·by_cases h4:p.filters.length≤60
  ·have hr:decide (q3em p+qnlp p.filters≤140000)=R:=by rw[←HR.out,hl1,hl2,decide_eq_true h3,decide_eq_true h4];rfl
   have HR2:=Lib.hid hr
   have g3:¬60 < (p.codes.length:Int):=by omega
   have g4:¬60 < (p.filters.length:Int):=by omega
   have z0:=qkrc p.topic
   have y0:=OK.out.texts p.topic (by simp[Pk.texts])
   obtain⟨t0,ht0⟩:∃t:Int,((bs p.topic).size:Int)=t:=⟨_,rfl⟩
   have z1:=qkrc p.payload
   have y1:=OK.out.texts p.payload (by simp[Pk.texts])
   obtain⟨t1,ht1⟩:∃t:Int,((bs p.payload).size:Int)=t:=⟨_,rfl⟩
   have z2:=qkrc p.client
   have y2:=OK.out.texts p.client (by simp[Pk.texts])
   obtain⟨t2,ht2⟩:∃t:Int,((bs p.client).size:Int)=t:=⟨_,rfl⟩
   have z3:=qkrc p.user
   have y3:=OK.out.texts p.user (by simp[Pk.texts])
   obtain⟨t3,ht3⟩:∃t:Int,((bs p.user).size:Int)=t:=⟨_,rfl⟩
   have z4:=qkrc p.pass
   have y4:=OK.out.texts p.pass (by simp[Pk.texts])
   obtain⟨t4,ht4⟩:∃t:Int,((bs p.pass).size:Int)=t:=⟨_,rfl⟩
   have z5:=qkrc p.wTopic
   have y5:=OK.out.texts p.wTopic (by simp[Pk.texts])
   obtain⟨t5,ht5⟩:∃t:Int,((bs p.wTopic).size:Int)=t:=⟨_,rfl⟩
   have z6:=qkrc p.wPayload
   have y6:=OK.out.texts p.wPayload (by simp[Pk.texts])
   obtain⟨t6,ht6⟩:∃t:Int,((bs p.wPayload).size:Int)=t:=⟨_,rfl⟩
   obtain⟨s1,hs1⟩:∃s,t0+t1=s:=⟨_,rfl⟩
   have e0:IntKind.i64.wrap (t0+t1)=s1:=by simp only[IntKind.wrap_i64];omega
   obtain⟨s2,hs2⟩:∃s,s1+t2=s:=⟨_,rfl⟩
   have e1:IntKind.i64.wrap (s1+t2)=s2:=by simp only[IntKind.wrap_i64];omega
   obtain⟨s3,hs3⟩:∃s,s2+t3=s:=⟨_,rfl⟩
   have e2:IntKind.i64.wrap (s2+t3)=s3:=by simp only[IntKind.wrap_i64];omega
   obtain⟨s4,hs4⟩:∃s,s3+t4=s:=⟨_,rfl⟩
   have e3:IntKind.i64.wrap (s3+t4)=s4:=by simp only[IntKind.wrap_i64];omega
   obtain⟨s5,hs5⟩:∃s,s4+t5=s:=⟨_,rfl⟩
   have e4:IntKind.i64.wrap (s4+t5)=s5:=by simp only[IntKind.wrap_i64];omega
   obtain⟨s6,hs6⟩:∃s,s5+t6=s:=⟨_,rfl⟩
   have e5:IntKind.i64.wrap (s5+t6)=s6:=by simp only[IntKind.wrap_i64];omega
   have hT:s6=(q3em p:Nat):=by unfold q3em;omega
   have hTle:q3em p≤985162418458624:=by unfold q3em;omega
   clear z0 y0 z1 y1 z2 y2 z3 y3 z4 y4 z5 y5 z6 y6
   generalize bs p.topic=u0 at *
   generalize bs p.payload=u1 at *
   generalize bs p.client=u2 at *
   generalize bs p.user=u3 at *
   generalize bs p.pass=u4 at *
   generalize bs p.wTopic=u5 at *
   generalize bs p.wPayload=u6 at *
   rw[hT] at e5
   clear hs1 hs2 hs3 hs4 hs5 hs6 hT
   generalize q3em p=T0 at *
   obtain⟨n,hn⟩:∃n,p.filters.length=n:=⟨_,rfl⟩
   have HN:=Lib.hid hn
   rw[hn] at c23 g4 h4
   have q0:(n:Int)≤60:=by omega
   have HT:=Lib.hid hTle
   clear hr hn hl1 hl2 h3 h4 hTle
   go_enter Tryz.func16,Tryz.ntmps16
   go_wp2_with fail
   refine(L1.out 0).mono ?_
   rintro e w1 ⟨rfl,m,rfl⟩
   go_wp2_with fail
   refine(L2.out _).mono ?_
   rintro e w1 ⟨rfl,m',hw1⟩
   have c23':w1.cell? ⟨w.heap.size,23,none⟩=some (.slice a.fs n a.fc):=by rw[hw1];exact(World.cell?_alloc_at _ _ _ _ rfl).trans c23
   have c22':w1.cell? ⟨w.heap.size,22,none⟩=some (.slice a.cs p.codes.length a.cc):=by rw[hw1];exact(World.cell?_alloc_at _ _ _ _ rfl).trans c22
   have c5':w1.cell? ⟨w.heap.size,5,none⟩=some (.string u0):=by rw[hw1];exact(World.cell?_alloc_at _ _ _ _ rfl).trans c5
   have c6':w1.cell? ⟨w.heap.size,6,none⟩=some (.string u1):=by rw[hw1];exact(World.cell?_alloc_at _ _ _ _ rfl).trans c6
   have c9':w1.cell? ⟨w.heap.size,9,none⟩=some (.string u2):=by rw[hw1];exact(World.cell?_alloc_at _ _ _ _ rfl).trans c9
   have c11':w1.cell? ⟨w.heap.size,11,none⟩=some (.string u3):=by rw[hw1];exact(World.cell?_alloc_at _ _ _ _ rfl).trans c11
   have c13':w1.cell? ⟨w.heap.size,13,none⟩=some (.string u4):=by rw[hw1];exact(World.cell?_alloc_at _ _ _ _ rfl).trans c13
   have c15':w1.cell? ⟨w.heap.size,15,none⟩=some (.string u5):=by rw[hw1];exact(World.cell?_alloc_at _ _ _ _ rfl).trans c15
   have c16':w1.cell? ⟨w.heap.size,16,none⟩=some (.string u6):=by rw[hw1];exact(World.cell?_alloc_at _ _ _ _ rfl).trans c16
   have HB1:=Lib.hid (show Below w.heap.size w w1 by rw[hw1];exact qnpu (HB.out m) m')
   have HF1:=Lib.hid (show CL w1 a.fs (fcs p.filters) by rw[hw1];exact(HF.out m).below (qnpu (Below.refl _ _) m'))
   clear hw1 c19 c22 c23 c24 c5 c6 c9 c11 c13 c15 c16
   go_wp2_with fail
   clear c5' c6' c9' c11' c13' c15' c16' c22'
   clear e0 e1 e2 e3 e4 e5 ht0 ht1 ht2 ht3 ht4 ht5 ht6
   go_loopg [4,3] n (fun gk i s wr=>∃k t:Nat,k≤n∧gk=n - k∧i = .int .i64 (k:Int)∧s = .int .i64 (t:Int)∧t=T0+qnlp (p.filters.take k)∧t≤985162418458624+k*140737488351232∧w1=wr)
   case atStart=>exact⟨0,T0,Nat.zero_le _,rfl,rfl,rfl,rfl,by have:=HT.out;omega,rfl⟩
   case round=>
    obtain⟨k,t,hk,rfl,rfl,rfl,ht,ht2,rfl⟩:=hrel
    by_cases hlt:k < n
    ·obtain⟨f,hf⟩:∃f,p.filters[k]? = some f:=⟨_,List.getElem?_eq_getElem (by rw[HN.out];exact hlt)⟩
     obtain⟨g',i',e',_,a0,_,_,_,_⟩:=HF1.out.fi hf
     have hz:=qkrc f.topic
     have hfl:=OK.out.fis f (List.mem_of_getElem? hf)
     obtain⟨x,hx⟩:∃x:Int,((bs f.topic).size:Int)=x:=⟨_,rfl⟩
     have hwr:IntKind.i64.wrap ((t:Int)+x)=((t+f.topic.length:Nat):Int):=by simp only[IntKind.wrap_i64];omega
     have htk:T0+qnlp (p.filters.take (k+1))=t+f.topic.length:=by rw[List.take_add_one,hf,ht];simp only[Option.toList_some];rw[q8f1];omega
     have HK:=Lib.hid htk
     have hb2:t+f.topic.length≤985162418458624+(k+1)*140737488351232:=by omega
     have HB2:=Lib.hid hb2
     have HL:=Lib.hid hlt
     have g1:(k:Int) < (n:Int):=by omega
     have g1n:k < n:=hlt
     rw[e'] at c23'
     generalize bs f.topic=u at *
     clear hz hfl htk hb2 ht ht2 hf hlt hk
     obtain⟨t2,ht2⟩:∃t2,t+f.topic.length=t2:=⟨_,rfl⟩
     rw[ht2] at hwr HK HB2
     clear ht2
     go_wp2_with fail
     go_roundg (n - (k+1))
     case measure=>have:=HL.out;omega
     case rel=>exact⟨k+1,t2,by have:=HL.out;omega,rfl,by go_num,rfl,HK.out.symm,HB2.out,rfl⟩
    ·obtain rfl:k=n:=by omega
     have hfin:decide ((t:Int)≤140000)=R:=by
      rw[←HR2.out,ht,show p.filters.take k=p.filters from List.take_of_length_le (by rw[HN.out];omega),decide_eq_decide];omega
     have HFIN:=Lib.hid hfin
     clear hfin ht ht2 hk hlt
     go_wp2_with fail
     go_ret
     exact⟨congrArg (fun b=>Ending.returned (Value.bool b)) HFIN.out,HB1.out⟩
  ·have hr:R=false:=by rw[←HR.out,hl1,hl2,decide_eq_true h3,decide_eq_false h4];rfl
   have g3:¬60 < (p.codes.length:Int):=by omega
   have g4:60 < (p.filters.length:Int):=by omega
   subst hr
   clear hl1 hl2 h3 h4
   go_enter Tryz.func16,Tryz.ntmps16
   go_wp2_with fail
   refine(L1.out 0).mono ?_
   rintro e w1 ⟨rfl,m,rfl⟩
   go_wp2_with fail
   refine(L2.out _).mono ?_
   rintro e w1 ⟨rfl,m',rfl⟩
   go_wp2_with fail
   go_ret
   exact⟨rfl,by have:=HB.out (m+m');exact this⟩
 ·have hr:R=false:=by rw[←HR.out,hl1,hl2,decide_eq_false h3];rfl
  have g3:60 < (p.codes.length:Int):=by omega
  subst hr
  clear hl1 hl2 h3
  go_enter Tryz.func16,Tryz.ntmps16
  go_wp2_with fail
  refine(L1.out 0).mono ?_
  rintro e w1 ⟨rfl,m,rfl⟩
  go_wp2_with fail
  refine(L2.out _).mono ?_
  rintro e w1 ⟨rfl,m',rfl⟩
  go_wp2_with fail
  go_ret
  exact⟨rfl,by have:=HB.out (m+m');exact this⟩
theorem qm1s(b:UInt8):bits .and .u8 (b.toNat:Int) 128=if 128≤b.toNat then 128 else 0:=by
 have all:∀x:Fin 256,bits .and .u8 (x.val:Int) 128=if 128≤x.val then 128 else 0:=by decide+kernel
 exact all ⟨b.toNat,b.toNat_lt⟩
theorem qbg0(b:UInt8):bits .and .u8 (b.toNat:Int) 127=((b.toNat%128:Nat):Int):=by
 have all:∀x:Fin 256,bits .and .u8 (x.val:Int) 127=((x.val%128:Nat):Int):=by decide+kernel
 exact all ⟨b.toNat,b.toNat_lt⟩
theorem qoki(x:Nat)(h:x < 128):bits .or .u8 (x:Int) 128=((x+128:Nat):Int):=by
 have all:∀x:Fin 128,bits .or .u8 (x.val:Int) 128=((x.val+128:Nat):Int):=by decide+kernel
 exact all ⟨x,h⟩
theorem quym(x:Int)(w:World)(h0:0≤x)(h1:x≤268435455) :
 Calls Tryz.prog 204 #[.int .u64 x] w fun e w'=>e = .returned (.int .i64 (Lib.bitLen x.toNat))∧w=w':=by
 have h32:x < 4294967296:=by omega
 by_cases c1:x < 256
 ·have l:=Lib.bitLen_le8' x h0 (by omega)
  have g0:x≤255:=by omega
  go_enter Tryz.func204,Tryz.ntmps204
  go_wp2
  go_ret
  refine⟨congrArg Ending.returned (congrArg (Value.int IntKind.i64) ?_),rfl⟩
  rw[Lib.len8_of x h0 g0]
  unfold wrap64
  omega
 by_cases c2:x < 65536
 ·have l:=Lib.bitLen_le8' (x / 256) (by omega) (by omega)
  have s:=Lib.bitLen_shift8 x.toNat (by omega) (by omega)
  have g0:0≤x / 256:=by omega
  have g1:x / 256≤255:=by omega
  have e:(x / 256).toNat=x.toNat / 256:=by omega
  rw[e] at l
  have E:=Lib.hid e
  have S:=Lib.hid s
  clear e s
  go_enter Tryz.func204,Tryz.ntmps204
  go_wp2
  go_ret
  refine⟨congrArg Ending.returned (congrArg (Value.int IntKind.i64) ?_),rfl⟩
  rw[Lib.len8_of (x / 256) g0 g1,E.out,S.out]
  unfold wrap64
  omega
 by_cases c3:x < 16777216
 ·have l:=Lib.bitLen_le8' (x / 65536) (by omega) (by omega)
  have s:=Lib.bitLen_shift16 x.toNat (by omega) (by omega)
  have g0:0≤x / 65536:=by omega
  have g1:x / 65536≤255:=by omega
  have e:(x / 65536).toNat=x.toNat / 65536:=by omega
  rw[e] at l
  have E:=Lib.hid e
  have S:=Lib.hid s
  clear e s
  go_enter Tryz.func204,Tryz.ntmps204
  go_wp2
  go_ret
  refine⟨congrArg Ending.returned (congrArg (Value.int IntKind.i64) ?_),rfl⟩
  rw[Lib.len8_of (x / 65536) g0 g1,E.out,S.out]
  unfold wrap64
  omega
 ·have l:=Lib.bitLen_le8' (x / 65536 / 256) (by omega) (by omega)
  have s:=Lib.bitLen_shift24 x.toNat (by omega) (by omega)
  have g0:0≤x / 65536 / 256:=by omega
  have g1:x / 65536 / 256≤255:=by omega
  have e:(x / 65536 / 256).toNat=x.toNat / 16777216:=by omega
  rw[e] at l
  have E:=Lib.hid e
  have S:=Lib.hid s
  clear e s
  go_enter Tryz.func204,Tryz.ntmps204
  go_wp2
  go_ret
  refine⟨congrArg Ending.returned (congrArg (Value.int IntKind.i64) ?_),rfl⟩
  rw[Lib.len8_of (x / 65536 / 256) g0 g1,E.out,S.out]
  unfold wrap64
  omega
theorem q5on(x:Int)(w:World)(h0:0≤x)(h1:x≤268435455) :
 Calls Tryz.prog 178 #[.int .u64 x] w fun e w'=>e = .returned (.int .i64 (Lib.bitLen x.toNat))∧w=w':=by
 go_enter Tryz.func178,Tryz.ntmps178
 go_wp2_with (go_at_call 204;refine(quym x _ h0 h1).mono ?_;rintro e w' ⟨rfl,rfl⟩)
 go_ret
 exact⟨rfl,rfl⟩
theorem qbdl(n:Nat)(h:n≤268435455):(max 1 (Lib.bitLen n)+6) / 7=sz n:=by
 have low:∀k,k≤63→2^k≤n→k < Lib.bitLen n:=fun k hk hn=>by
  have hpos:n / 2^k≠0:=by have:=Nat.div_pos hn (Nat.two_pow_pos k);omega
  have h64:n < 2^64:=by
   have:(268435455:Nat) < 2^64:=by decide
   omega
  rw[Lib.bitLen_shift k n hn h64,Lib.bitLen_half _ hpos (Nat.lt_of_le_of_lt (Nat.div_le_self _ _) h64)]
  omega
 rcases qnl4 n h with ⟨e,h1⟩ | ⟨e,h1,h2⟩ | ⟨e,h1,h2⟩ | ⟨e,h1⟩<;>rw[e]
 ·have:=Lib.bitLen_le n 7 (by decide) h1
  omega
 ·have:=Lib.bitLen_le n 14 (by decide) h2
  have:=low 7 (by decide) h1
  omega
 ·have:=Lib.bitLen_le n 21 (by decide) h2
  have:=low 14 (by decide) h1
  omega
 ·have:=Lib.bitLen_le n 28 (by decide) (by omega)
  have:=low 21 (by decide) h1
  omega
theorem ql84(n:Nat)(h:n≤268435455):(max 1 (Lib.bitLen n:Int)+7 - 1) / 7=sz n:=by
 rw[←qbdl n h]
 generalize Lib.bitLen n=b
 rcases Nat.le_total 1 b with h | h
 ·rw[Nat.max_eq_right h,Int.max_eq_right (by omega)];omega
 ·rw[Nat.max_eq_left h,Int.max_eq_left (by omega)];omega
theorem qk0d(n:Int)(w:World) :
 Calls Tryz.prog 149 #[.int .i64 n] w fun e w'=>e = .returned (.int .i64 (sz n))∧w=w':=by
 by_cases h1:n < 0
 ·rw[qbck.2 (.inl h1)]
  go_enter Tryz.func149,Tryz.ntmps149
  go_wp2
  go_ret
  exact⟨rfl,rfl⟩
 by_cases h2:268435455 < n
 ·rw[qbck.2 (.inr h2)]
  go_enter Tryz.func149,Tryz.ntmps149
  go_wp2
  go_ret
  exact⟨rfl,rfl⟩
 ·obtain⟨k,rfl⟩:=Int.eq_ofNat_of_zero_le (show 0≤n by omega)
  have e:=ql84 k (by omega)
  have b:=Lib.bitLen_le k 28 (by decide) (by omega)
  have E:=Lib.hid e
  clear e
  go_enter Tryz.func149,Tryz.ntmps149
  go_wp2_with (go_at_call 178;refine(q5on k _ (by omega) (by omega)).mono ?_;rintro e w' ⟨rfl,rfl⟩)
  go_ret
  exact⟨congrArg Ending.returned (congrArg (Value.int IntKind.i64) E.out),rfl⟩
structure UsS(w:World)(p:Pk)(a:Ad)(x:Pk)(b:Ad)(W:World):Prop where
 low:Below w.heap.size w W
 box:W.heap[w.heap.size]? = some (.cells (pkC p a) 29 (0,0))
 res:W.heap[w.heap.size+1]? = some (.cells pkZ 29 (0,0))
 new:W.heap[w.heap.size+1+1]? = some (.cells (pkC x b) 29 (0,0))
section
variable{w W W':World}{p x:Pk}{a b:Ad}
theorem UsS.cell(h:UsS w p a x b W)(j:Nat):W.cell? ⟨w.heap.size,j,none⟩=(pkC p a)[j]? := cell_of_row _ _ j _ _ _ h.box
theorem UsS.ncell(h:UsS w p a x b W)(j:Nat):W.cell? ⟨w.heap.size+1+1,j,none⟩=(pkC x b)[j]? := cell_of_row _ _ j _ _ _ h.new
theorem UsS.fr(h:UsS w p a x b W)(j:Nat):W.frozen? ⟨w.heap.size+1+1,j,none⟩=false:=frozen_of_row _ _ _ _ _ h.new
theorem UsS.put(h:UsS w p a x b W)(j:Nat)(u:Value){x':Pk}{b':Ad}(he:(pkC x b).setIfInBounds j u=pkC x' b'):UsS w p a x' b' (W.setCell ⟨w.heap.size+1+1,j,none⟩ u):=
 ⟨h.low.setCell (by show _≤w.heap.size+1+1;omega) u,(heap_setCell_other W ⟨w.heap.size+1+1,j,none⟩ _ u (by show w.heap.size≠w.heap.size+1+1;omega)).trans h.box,(heap_setCell_other W ⟨w.heap.size+1+1,j,none⟩ _ u (by show w.heap.size+1≠w.heap.size+1+1;omega)).trans h.res,
  by have:=qlvy h.new j u;rw[he] at this;exact this⟩
theorem UsS.call(h:UsS w p a x b W)(hb:Below W.heap.size W W'):UsS w p a x b W':=
 ⟨qxh2 h.low hb,(hb.block _ (lt_of_block h.box)).trans h.box,(hb.block _ (lt_of_block h.res)).trans h.res,(hb.block _ (lt_of_block h.new)).trans h.new⟩
theorem UsS.drew(h:UsS w p a x b W):UsS w p a x b W.drew:=⟨h.low.drew,h.box,h.res,h.new⟩
end
def adZ:Ad:=⟨none,0,none,0,none,0,none,0⟩
def q3zb(p:Pk):Array Value:=#[.int .i64 p.kind,.int .i64 p.qos,.int .i64 p.id,.int .i64 p.keep,.int .i64 p.code,.int .i64 p.wQos]
theorem q93c:(Tryz.prog.info? 140).map (·.size)=some 6:=by kernel_rfl
theorem q8oq(p:Pk):(q3zb p).all (·.oneCell')=true:=by simp[q3zb,Value.oneCell']
theorem qi7b(p:Pk)(a:Ad)(w:World):Calls Tryz.prog 118 #[pkV p a] w fun e w'=>e = .returned (.agg (q3zb p))∧Below w.heap.size w w':=by
 have HB:=Lib.hid (fun o o'=>qxh2 (qybm (w:=w) o) (qybm o'))
 have HN:=Lib.hid (fun o o'=>heap_alloc2_new w o o')
 have c0:(pkC p a)[0]? = some (.int .i64 p.kind):=rfl
 have c3:(pkC p a)[3]? = some (.int .i64 p.qos):=rfl
 have c4:(pkC p a)[4]? = some (.int .i64 p.id):=rfl
 have c8:(pkC p a)[8]? = some (.int .i64 p.keep):=rfl
 have c21:(pkC p a)[21]? = some (.int .i64 p.code):=rfl
 have c17:(pkC p a)[17]? = some (.int .i64 p.wQos):=rfl
 have hone:=q8oq p
 have hsz:(q3zb p).size=6:=rfl
 have hdef:q3zb p=#[.int .i64 p.kind,.int .i64 p.qos,.int .i64 p.id,.int .i64 p.keep,.int .i64 p.code,.int .i64 p.wQos]:=rfl
 unfold pkV
 generalize pkC p a=C at *
 generalize q3zb p=D at *
 generalize p.kind=v0 at *
 generalize p.qos=v3 at *
 generalize p.id=v4 at *
 generalize p.keep=v8 at *
 generalize p.code=v21 at *
 generalize p.wQos=v17 at *
 have H1:=Lib.hid hone
 have H2:=Lib.hid hsz
 have H3:=Lib.hid hdef
 clear hone hsz hdef
 go_enter Tryz.func118,Tryz.ntmps118
 go_wp2_with (first
  | (refine wpList_buildTo rfl 140 _ rfl (some 16) rfl D (by rw[H3.out];kernel_rfl) ?_)
  | (refine wpList_store_row rfl _ _ _ rfl (w.heap.size+1) D rfl rfl 140 _ (HN.out _ _) ?b1 ?b2 ?b3 ?_))
 case b1=>rw[H2.out];exact q93c
 case b2=>rw[H2.out];rfl
 case b3=>exact H1.out
 refine q7wi (cs:=D) rfl rfl rfl Tryz.underlying140 rfl (by rw[H2.out];exact q93c) (setRow_heap _ _ _ _ _ _ (HN.out _ _)) ?_
 exact⟨rfl,q8xz (HB.out _ _) (by omega) _⟩
theorem qnle(x0 y0 x1 y1 x2 y2 x3 y3 x4 y4 x5 y5:Int)(w:World):(Op.equalIn 10000 140 (.agg #[.int .i64 x0,.int .i64 x1,.int .i64 x2,.int .i64 x3,.int .i64 x4,.int .i64 x5]) (.agg #[.int .i64 y0,.int .i64 y1,.int .i64 y2,.int .i64 y3,.int .i64 y4,.int .i64 y5])).run Tryz.prog w = .ok ((x0==y0)&&(x1==y1)&&(x2==y2)&&(x3==y3)&&(x4==y4)&&(x5==y5)) w:=by
 have u3:=Tryz.underlying3
 have a3:=Tryz.isAgg3
 have z3:=Tryz.sizeOf3
 rw[show(10000:Nat)=9999+1 from rfl,Op.equalIn]
 simp only[Sem.run_bind,run_underlying Tryz.underlying140,Result.andThen_ok]
 simp only[Std.Legacy.Range.forIn_eq_forIn_range',Std.Legacy.Range.size,Nat.sub_zero,Nat.add_sub_cancel,Nat.div_one,List.range'_succ,List.range'_zero,List.forIn_cons,List.forIn_nil]
 go_simp
 by_cases h0:x0=y0<;>by_cases h1:x1=y1<;>by_cases h2:x2=y2<;>by_cases h3:x3=y3<;>by_cases h4:x4=y4<;>by_cases h5:x5=y5<;>simp[h0,h1,h2,h3,h4,h5]
theorem qh1o(p q:Pk)(w:World):(binOp .eql 140 (.agg (q3zb p)) (.agg (q3zb q))).run Tryz.prog w = .ok (.bool (decide (p.nums=q.nums))) w:=by
 rw[run_eql_struct]
 unfold q3zb
 rw[qnle]
 show Result.ok (Value.bool _) w=_
 congr 2
 rw[Bool.eq_iff_iff]
 simp[Pk.nums,and_assoc]
def qjjk(p:Pk):Array Value:=#[.bool p.dup,.bool p.retain,.bool p.clean,.bool p.hasUser,.bool p.hasPass,.bool p.hasWill,.bool p.session,.bool p.wRetain]
theorem qa72:(Tryz.prog.info? 142).map (·.size)=some 8:=by kernel_rfl
theorem qai1(p:Pk):(qjjk p).all (·.oneCell')=true:=by simp[qjjk,Value.oneCell']
theorem qu0d(p:Pk)(a:Ad)(w:World):Calls Tryz.prog 119 #[pkV p a] w fun e w'=>e = .returned (.agg (qjjk p))∧Below w.heap.size w w':=by
 have HB:=Lib.hid (fun o o'=>qxh2 (qybm (w:=w) o) (qybm o'))
 have HN:=Lib.hid (fun o o'=>heap_alloc2_new w o o')
 have c1:(pkC p a)[1]? = some (.bool p.dup):=rfl
 have c2:(pkC p a)[2]? = some (.bool p.retain):=rfl
 have c7:(pkC p a)[7]? = some (.bool p.clean):=rfl
 have c10:(pkC p a)[10]? = some (.bool p.hasUser):=rfl
 have c12:(pkC p a)[12]? = some (.bool p.hasPass):=rfl
 have c14:(pkC p a)[14]? = some (.bool p.hasWill):=rfl
 have c20:(pkC p a)[20]? = some (.bool p.session):=rfl
 have c18:(pkC p a)[18]? = some (.bool p.wRetain):=rfl
 have hone:=qai1 p
 have hsz:(qjjk p).size=8:=rfl
 have hdef:qjjk p=#[.bool p.dup,.bool p.retain,.bool p.clean,.bool p.hasUser,.bool p.hasPass,.bool p.hasWill,.bool p.session,.bool p.wRetain]:=rfl
 unfold pkV
 generalize pkC p a=C at *
 generalize qjjk p=D at *
 generalize p.dup=v1 at *
 generalize p.retain=v2 at *
 generalize p.clean=v7 at *
 generalize p.hasUser=v10 at *
 generalize p.hasPass=v12 at *
 generalize p.hasWill=v14 at *
 generalize p.session=v20 at *
 generalize p.wRetain=v18 at *
 have H1:=Lib.hid hone
 have H2:=Lib.hid hsz
 have H3:=Lib.hid hdef
 clear hone hsz hdef
 go_enter Tryz.func119,Tryz.ntmps119
 go_wp2_with (first
  | (refine wpList_buildTo rfl 142 _ rfl (some 20) rfl D (by rw[H3.out];kernel_rfl) ?_)
  | (refine wpList_store_row rfl _ _ _ rfl (w.heap.size+1) D rfl rfl 142 _ (HN.out _ _) ?b1 ?b2 ?b3 ?_))
 case b1=>rw[H2.out];exact qa72
 case b2=>rw[H2.out];rfl
 case b3=>exact H1.out
 refine q7wi (cs:=D) rfl rfl rfl Tryz.underlying142 rfl (by rw[H2.out];exact qa72) (setRow_heap _ _ _ _ _ _ (HN.out _ _)) ?_
 exact⟨rfl,q8xz (HB.out _ _) (by omega) _⟩
theorem qu29(x0 y0 x1 y1 x2 y2 x3 y3 x4 y4 x5 y5 x6 y6 x7 y7:Bool)(w:World):(Op.equalIn 10000 142 (.agg #[.bool x0,.bool x1,.bool x2,.bool x3,.bool x4,.bool x5,.bool x6,.bool x7]) (.agg #[.bool y0,.bool y1,.bool y2,.bool y3,.bool y4,.bool y5,.bool y6,.bool y7])).run Tryz.prog w = .ok ((x0==y0)&&(x1==y1)&&(x2==y2)&&(x3==y3)&&(x4==y4)&&(x5==y5)&&(x6==y6)&&(x7==y7)) w:=by
 have u3:=Tryz.underlying4
 have a3:=Tryz.isAgg4
 have z3:=Tryz.sizeOf4
 rw[show(10000:Nat)=9999+1 from rfl,Op.equalIn]
 simp only[Sem.run_bind,run_underlying Tryz.underlying142,Result.andThen_ok]
 simp only[Std.Legacy.Range.forIn_eq_forIn_range',Std.Legacy.Range.size,Nat.sub_zero,Nat.add_sub_cancel,Nat.div_one,List.range'_succ,List.range'_zero,List.forIn_cons,List.forIn_nil]
 go_simp
 by_cases h0:x0=y0<;>by_cases h1:x1=y1<;>by_cases h2:x2=y2<;>by_cases h3:x3=y3<;>by_cases h4:x4=y4<;>by_cases h5:x5=y5<;>by_cases h6:x6=y6<;>by_cases h7:x7=y7<;>simp[h0,h1,h2,h3,h4,h5,h6,h7]
theorem quaf(p q:Pk)(w:World):(binOp .eql 142 (.agg (qjjk p)) (.agg (qjjk q))).run Tryz.prog w = .ok (.bool (decide (p.marks=q.marks))) w:=by
 rw[run_eql_struct]
 unfold qjjk
 rw[qu29]
 show Result.ok (Value.bool _) w=_
 congr 2
 rw[Bool.eq_iff_iff]
 simp[Pk.marks,and_assoc]
def q5cx(p:Pk):Array Value:=#[.string (bs p.topic),.string (bs p.payload),.string (bs p.client),.string (bs p.user),.string (bs p.pass),.string (bs p.wTopic),.string (bs p.wPayload)]
theorem qebr:(Tryz.prog.info? 144).map (·.size)=some 7:=by kernel_rfl
theorem qzoi(p:Pk):(q5cx p).all (·.oneCell')=true:=by simp[q5cx,Value.oneCell']
theorem quge(p:Pk)(a:Ad)(w:World):Calls Tryz.prog 120 #[pkV p a] w fun e w'=>e = .returned (.agg (q5cx p))∧Below w.heap.size w w':=by
 have HB:=Lib.hid (fun o o'=>qxh2 (qybm (w:=w) o) (qybm o'))
 have HN:=Lib.hid (fun o o'=>heap_alloc2_new w o o')
 have c5:(pkC p a)[5]? = some (.string (bs p.topic)):=rfl
 have c6:(pkC p a)[6]? = some (.string (bs p.payload)):=rfl
 have c9:(pkC p a)[9]? = some (.string (bs p.client)):=rfl
 have c11:(pkC p a)[11]? = some (.string (bs p.user)):=rfl
 have c13:(pkC p a)[13]? = some (.string (bs p.pass)):=rfl
 have c15:(pkC p a)[15]? = some (.string (bs p.wTopic)):=rfl
 have c16:(pkC p a)[16]? = some (.string (bs p.wPayload)):=rfl
 have hone:=qzoi p
 have hsz:(q5cx p).size=7:=rfl
 have hdef:q5cx p=#[.string (bs p.topic),.string (bs p.payload),.string (bs p.client),.string (bs p.user),.string (bs p.pass),.string (bs p.wTopic),.string (bs p.wPayload)]:=rfl
 unfold pkV
 generalize pkC p a=C at *
 generalize q5cx p=D at *
 generalize bs p.topic=v5 at *
 generalize bs p.payload=v6 at *
 generalize bs p.client=v9 at *
 generalize bs p.user=v11 at *
 generalize bs p.pass=v13 at *
 generalize bs p.wTopic=v15 at *
 generalize bs p.wPayload=v16 at *
 have H1:=Lib.hid hone
 have H2:=Lib.hid hsz
 have H3:=Lib.hid hdef
 clear hone hsz hdef
 go_enter Tryz.func120,Tryz.ntmps120
 go_wp2_with (first
  | (refine wpList_buildTo rfl 144 _ rfl (some 19) rfl D (by rw[H3.out];kernel_rfl) ?_)
  | (refine wpList_store_row rfl _ _ _ rfl (w.heap.size+1) D rfl rfl 144 _ (HN.out _ _) ?b1 ?b2 ?b3 ?_))
 case b1=>rw[H2.out];exact qebr
 case b2=>rw[H2.out];rfl
 case b3=>exact H1.out
 refine q7wi (cs:=D) rfl rfl rfl Tryz.underlying144 rfl (by rw[H2.out];exact qebr) (setRow_heap _ _ _ _ _ _ (HN.out _ _)) ?_
 exact⟨rfl,q8xz (HB.out _ _) (by omega) _⟩
theorem qase(x0 y0 x1 y1 x2 y2 x3 y3 x4 y4 x5 y5 x6 y6:ByteArray)(w:World):(Op.equalIn 10000 144 (.agg #[.string x0,.string x1,.string x2,.string x3,.string x4,.string x5,.string x6]) (.agg #[.string y0,.string y1,.string y2,.string y3,.string y4,.string y5,.string y6])).run Tryz.prog w = .ok ((x0.toList==y0.toList)&&(x1.toList==y1.toList)&&(x2.toList==y2.toList)&&(x3.toList==y3.toList)&&(x4.toList==y4.toList)&&(x5.toList==y5.toList)&&(x6.toList==y6.toList)) w:=by
 have u3:=Tryz.underlying9
 have a3:=Tryz.isAgg9
 have z3:=Tryz.sizeOf9
 rw[show(10000:Nat)=9999+1 from rfl,Op.equalIn]
 simp only[Sem.run_bind,run_underlying Tryz.underlying144,Result.andThen_ok]
 simp only[Std.Legacy.Range.forIn_eq_forIn_range',Std.Legacy.Range.size,Nat.sub_zero,Nat.add_sub_cancel,Nat.div_one,List.range'_succ,List.range'_zero,List.forIn_cons,List.forIn_nil]
 go_simp
 by_cases h0:x0.toList=y0.toList<;>by_cases h1:x1.toList=y1.toList<;>by_cases h2:x2.toList=y2.toList<;>by_cases h3:x3.toList=y3.toList<;>by_cases h4:x4.toList=y4.toList<;>by_cases h5:x5.toList=y5.toList<;>by_cases h6:x6.toList=y6.toList<;>simp[h0,h1,h2,h3,h4,h5,h6]
theorem q6p1(p q:Pk)(w:World):(binOp .eql 144 (.agg (q5cx p)) (.agg (q5cx q))).run Tryz.prog w = .ok (.bool (decide (p.texts=q.texts))) w:=by
 rw[run_eql_struct]
 unfold q5cx
 rw[qase]
 show Result.ok (Value.bool _) w=_
 congr 2
 rw[Bool.eq_iff_iff]
 simp[Pk.texts,q0c6,and_assoc]
end Go.Proofs.YtbecggefmbpnoaaGreatDoor
