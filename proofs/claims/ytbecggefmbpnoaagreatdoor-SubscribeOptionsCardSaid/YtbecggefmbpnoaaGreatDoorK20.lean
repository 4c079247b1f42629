/- The contracts of polyglotref03.Bad and Valid. Condition: at most 70,000 bytes. -/
import Derived.WalkSmall
import Derived.Deep.LoopGhost
import Derived.Test.YtbecggefmbpnoaaGreatDoorK16
import Derived.Test.YtbecggefmbpnoaaGreatDoorK19
import Derived.Test.YtbecggefmbpnoaaGreatDoorK03
set_option maxHeartbeats 1000000
set_option maxRecDepth 100000
namespace Go.Proofs.YtbecggefmbpnoaaGreatDoor
open Go.RowKit
theorem qip3{l:List UInt8}{cs rest:List Nat}{pos:Nat}(e:pts l=cs++rest)(hpos:(cbs cs).length=pos) :
 (rest=[]∧fin l=pos∧(pos < l.length→(ptr l pos).1=0))∨(∃c t,rest=c::t∧okc c∧pos+(cb c).length≤l.length∧ptr l pos=(c,(cb c).length)):=by
 obtain⟨r,hl,hr⟩:=q454 l
 have ho:=qiv7 l
 rw[e] at hl ho
 have hdr:l.drop pos=cbs rest++r:=by
  rw[←hpos,hl,q5g4,List.append_assoc];simp
 have hll:=congrArg List.length hl
 rw[q5g4,List.length_append,List.length_append,hpos] at hll
 cases rest with
 | nil=>
  refine .inl ⟨rfl,?_,fun hlt=>?_⟩
  ·unfold fin;rw[e,List.append_nil,hpos]
  ·exact qqia hlt (by rw[hdr];exact hr)
 | cons c t=>
  have hc:okc c:=ho c (by simp)
  rw[q7su,List.length_append] at hll
  exact .inr ⟨c,t,rfl,hc,by omega,qbyn (by rw[hdr,q7su,List.append_assoc];exact qwug hc _)⟩
theorem ql8r(s:ByteArray)(w:World)(hs:s.size≤70000) :
 Calls Tryz.prog 103 #[.string s] w fun e w'=>e = .returned (.int .i64 (qpht s.data.toList))∧w=w':=by
 obtain⟨z,hz⟩:∃z,qpht s.data.toList=z:=⟨_,rfl⟩
 rw[hz]
 have hz:=Lib.hid hz
 have hs':(s.size:Int)≤70000:=by omega
 go_enter Tryz.func103,Tryz.ntmps103
 go_wp2
 go_loop [3] (fun v=>∃(cs rest:List Nat) (pos:Nat),pts s.data.toList=cs++rest∧(cbs cs).length=pos∧v = .int .i64 (pos:Int)) (fun v=>s.size - (intOf v).toNat)
 case atStart=>exact⟨[],_,0,rfl,rfl,rfl⟩
 case round=>
  obtain⟨cs,rest,pos,he,hpos,rfl⟩:=hrel
  rcases qip3 he hpos with ⟨hr,hf,h0⟩ | ⟨c,t,rfl,hc,hle,hp⟩
  ·have hfl:=q1um s.data.toList
   rw[hf,←q4ad] at hfl
   by_cases hlt:pos < s.size
   ·have hb:qpht s.data.toList=(pos:Int):=by unfold qpht;rw[hf,←q4ad,if_pos hlt]
    have hb:=Lib.hid (hz.out.symm.trans hb)
    have hP:=q1zs s pos w hs hlt
    rw[h0 (by rw[←q4ad];exact hlt)] at hP
    obtain⟨m,hm⟩:∃m,(ptr s.data.toList pos).2=m:=⟨_,rfl⟩
    rw[hm] at hP
    have hP:=Lib.hid hP
    have g1:(pos:Int) < (s.size:Int):=by omega
    clear he hpos hr hf h0 hm hfl
    by_cases hm0:m=0
    ·subst hm0
     go_wp2_with fail
     refine(hP.out).mono ?_
     rintro e w' ⟨rfl,rfl⟩
     go_wp2_with fail
     go_ret
     exact⟨by rw[hb.out];rfl,rfl⟩
    ·have g2:¬(m:Int)=0:=by omega
     go_wp2_with fail
     refine(hP.out).mono ?_
     rintro e w' ⟨rfl,rfl⟩
     go_wp2_with fail
     go_ret
     exact⟨by rw[hb.out];rfl,rfl⟩
   ·obtain rfl:pos=s.size:=by omega
    have hb:qpht s.data.toList= -1:=by unfold qpht;rw[hf,←q4ad,if_neg (Nat.lt_irrefl _)]
    have hb:=Lib.hid (hz.out.symm.trans hb)
    clear he hpos hr hf h0 hfl
    go_wp2_with fail
    go_ret
    exact⟨by rw[hb.out];rfl,rfl⟩
  ·have hcp:=qp6t c
   have hc0:=hc.1
   rw[←q4ad] at hle
   have hlt:pos < s.size:=by omega
   have hP:=q1zs s pos w hs hlt
   rw[hp] at hP
   obtain⟨k,hk⟩:∃k,(cb c).length=k:=⟨_,rfl⟩
   dsimp only at hP
   rw[hk] at hP hcp hle
   have hP:=Lib.hid hP
   have NEXT:=Lib.hid (show pts s.data.toList=(cs++[c])++t∧(cbs (cs++[c])).length=pos+k from⟨by rw[he,List.append_assoc];rfl,by rw[q6ts,List.length_append,hpos,hk]⟩)
   have g1:(pos:Int) < (s.size:Int):=by omega
   have g2:((k:Int)==0)=false:=by rw[beq_eq_false_iff_ne];omega
   have g3:((c:Int)==0)=false:=by rw[beq_eq_false_iff_ne];omega
   have g4:(pos:Int)+(k:Int)≤70000:=by omega
   have GG:=Lib.hid (show 0 < k∧pos < s.size from⟨hcp,hlt⟩)
   clear he hpos hp hk hc hcp hc0 hle hlt
   go_wp2_with fail
   refine(hP.out).mono ?_
   rintro e w' ⟨rfl,rfl⟩
   go_wp2_with fail
   go_round
   case rel=>exact⟨cs++[c],t,pos+k,NEXT.out.1,NEXT.out.2,by rw[Int.natCast_add]⟩
   case measure=>have:=GG.out;simp[intOf];omega
theorem qcip(s:ByteArray)(w:World) :
 Calls Tryz.prog 71 #[.string s] w fun e w'=>e = .returned (.bool (qecx s.data.toList))∧w=w':=by
 by_cases h1:s.size≤65535
 ·have hb:=Lib.hid (ql8r s w (by omega))
  have hv:qecx s.data.toList=decide (qpht s.data.toList < 0):=by
   unfold qecx
   rw[←q4ad]
   simp[h1]
  obtain⟨z,hz⟩:∃z,qpht s.data.toList=z:=⟨_,rfl⟩
  rw[hz] at hv hb
  have hv:=Lib.hid hv
  go_enter Tryz.func71,Tryz.ntmps71
  go_wp2_with fail
  refine(hb.out).mono ?_
  rintro e w' ⟨rfl,rfl⟩
  go_wp2_with fail
  go_ret
  exact⟨by rw[hv.out];rfl,rfl⟩
 ·have hv:qecx s.data.toList=false:=by
   unfold qecx
   rw[←q4ad]
   simp;omega
  have h2:65535 < s.size:=by omega
  clear h1
  rw[hv]
  go_enter Tryz.func71,Tryz.ntmps71
  go_wp2_with fail
  go_ret
  exact⟨rfl,rfl⟩
theorem qwdg(s:ByteArray)(c:UInt8)(w:World)(hs:s.size≤200000):Calls Tryz.prog 73 #[.string s,.int .u8 c.toNat] w fun e w'=>e = .returned (.bool (decide (c∈s.data.toList)))∧w=w':=by
 obtain⟨C,hC⟩:∃C,decide (c∈s.data.toList)=C:=⟨_,rfl⟩
 rw[hC]
 have HC:=Lib.hid hC
 obtain⟨m,hm⟩:∃m,c.toNat=m:=⟨_,rfl⟩
 rw[hm]
 have HM:=Lib.hid hm
 have q0:(s.size:Int)≤200000:=by omega
 clear hC hm hs
 go_enter Tryz.func73,Tryz.ntmps73
 go_wp2_with fail
 go_loopg [5] s.size (fun gk v wx=>∃k:Nat,k≤s.size∧gk=s.size - k∧v = .int .i64 (k:Int)∧wx=w∧∀j x,j < k→s.data.toList[j]? = some x→x≠c)
 case atStart=>exact⟨0,Nat.zero_le _,rfl,rfl,rfl,fun j x h=>by omega⟩
 case round=>
  obtain⟨k,hk,rfl,rfl,rfl,hno⟩:=hrel
  have HNO:=Lib.hid hno
  by_cases hlt:k < s.size
  ·have q1:(k:Int) < (s.size:Int):=by omega
   have hx:s.data.toList[k]? = some s[k]:=by rw[List.getElem?_eq_getElem (by rw[←q4ad];exact hlt)];rfl
   have HX:=Lib.hid hx
   have HL:=Lib.hid hlt
   obtain⟨r,hr⟩:∃r,s[k].toNat=r:=⟨_,rfl⟩
   have HR:=Lib.hid hr
   clear hno hx hk
   by_cases he:s[k]=c
   ·have hrm:r=m:=by rw[←hr,←HM.out,he]
    have:C=true:=by rw[←HC.out];exact decide_eq_true (List.mem_of_getElem? (HX.out.trans (congrArg some he)))
    subst this
    subst hrm
    clear he HC
    go_wp2_with fail
    go_ret
    exact⟨rfl,rfl⟩
   ·have hrm:¬r=m:=by rw[←hr,←HM.out];exact fun h=>he (UInt8.toNat.inj h)
    have q2:((r:Int)==(m:Int))=false:=by rw[beq_eq_false_iff_ne];omega
    have HE:=Lib.hid he
    clear he hrm
    go_wp2_with fail
    go_roundg (s.size - (k+1))
    case measure=>have:=HL.out;omega
    case rel=>
     refine⟨k+1,by have:=HL.out;omega,rfl,by go_num,rfl,fun j y hj hy=>?_⟩
     by_cases hjk:j=k
     ·subst hjk
      have:=hy.symm.trans HX.out
      injection this with this
      rw[this];exact HE.out
     ·exact HNO.out j y (by omega) hy
  ·obtain rfl:k=s.size:=by omega
   have:C=false:=by
    rw[←HC.out]
    refine decide_eq_false fun h=>?_
    obtain⟨j,hj⟩:=List.mem_iff_getElem?.1 h
    exact HNO.out j c (by have:=(List.getElem?_eq_some_iff.1 hj).1;rw[←q4ad] at this;exact this) hj rfl
   subst this
   clear hno hlt hk HC
   go_wp2_with fail
   go_ret
   exact⟨rfl,rfl⟩
end Go.Proofs.YtbecggefmbpnoaaGreatDoor
