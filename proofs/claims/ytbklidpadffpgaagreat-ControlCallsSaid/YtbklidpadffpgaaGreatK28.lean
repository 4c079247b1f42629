/- The contracts of polyglotref03.Bad and Valid. Condition: at most 70,000 bytes. -/
import Derived.WalkSmall
import Derived.Deep.LoopGhost
import Derived.OwnWalk
import Derived.Below
import Derived.Lib.Hide
import Derived.StillTailTactics
import Derived.Laws.AppendOwn
import Derived.Test.YtbklidpadffpgaaGreatK25
import Derived.Test.YtbklidpadffpgaaGreatK27
import Derived.Test.YtbklidpadffpgaaGreatK09
import Derived.Test.YtbklidpadffpgaaGreatK03
import Derived.Test.YtbklidpadffpgaaGreatK10
set_option maxHeartbeats 1000000
set_option maxRecDepth 100000
namespace Go.Proofs.YtbklidpadffpgaaGreat
open Go.RowKit
theorem qip3{l:List UInt8}{cs rest:List Nat}{pos:Nat}(e:pts l=cs++rest)(hpos:(cbs cs).length=pos) :
 (rest=[]∧fin l=pos∧(pos < l.length→(ptr l pos).1=0))∨(∃c t,rest=c::t∧okc c∧pos+(cb c).length≤l.length∧ptr l pos=(c,(cb c).length)):=by
 obtain⟨r,hl,hr⟩:=q454 l
 have ho:=qiv7 l
 rw[e] at hl ho
 have hdr:l.drop pos=cbs rest++r:=by
  rw[←hpos,hl,q5g4,List.append_assoc];simp
 have hll:=congrArg List.length hl
 rw[q5g4,List.length_append,List.length_append,hpos] at hll
 cases rest with
 | nil=>
  refine .inl ⟨rfl,?_,fun hlt=>?_⟩
  ·unfold fin;rw[e,List.append_nil,hpos]
  ·exact qqia hlt (by rw[hdr];exact hr)
 | cons c t=>
  have hc:okc c:=ho c (by simp)
  rw[q7su,List.length_append] at hll
  exact .inr ⟨c,t,rfl,hc,by omega,qbyn (by rw[hdr,q7su,List.append_assoc];exact qwug hc _)⟩
theorem ql8r(s:ByteArray)(w:World)(hs:s.size≤70000) :
 Calls Tryz.prog 134 #[.string s] w fun e w'=>e = .returned (.int .i64 (qpht s.data.toList))∧w=w':=by
 obtain⟨z,hz⟩:∃z,qpht s.data.toList=z:=⟨_,rfl⟩
 rw[hz]
 have hz:=Lib.hid hz
 have hs':(s.size:Int)≤70000:=by omega
 go_enter Tryz.func134,Tryz.ntmps134
 go_wp2
 go_loop [3] (fun v=>∃(cs rest:List Nat) (pos:Nat),pts s.data.toList=cs++rest∧(cbs cs).length=pos∧v = .int .i64 (pos:Int)) (fun v=>s.size - (intOf v).toNat)
 case atStart=>exact⟨[],_,0,rfl,rfl,rfl⟩
 case round=>
  obtain⟨cs,rest,pos,he,hpos,rfl⟩:=hrel
  rcases qip3 he hpos with ⟨hr,hf,h0⟩ | ⟨c,t,rfl,hc,hle,hp⟩
  ·have hfl:=q1um s.data.toList
   rw[hf,←q4ad] at hfl
   by_cases hlt:pos < s.size
   ·have hb:qpht s.data.toList=(pos:Int):=by unfold qpht;rw[hf,←q4ad,if_pos hlt]
    have hb:=Lib.hid (hz.out.symm.trans hb)
    have hP:=q1zs s pos w hs hlt
    rw[h0 (by rw[←q4ad];exact hlt)] at hP
    obtain⟨m,hm⟩:∃m,(ptr s.data.toList pos).2=m:=⟨_,rfl⟩
    rw[hm] at hP
    have hP:=Lib.hid hP
    have g1:(pos:Int) < (s.size:Int):=by omega
    clear he hpos hr hf h0 hm hfl
    by_cases hm0:m=0
    ·subst hm0
     go_wp2_with fail
     refine(hP.out).mono ?_
     rintro e w' ⟨rfl,rfl⟩
     go_wp2_with fail
     go_ret
     exact⟨by rw[hb.out];rfl,rfl⟩
    ·have g2:¬(m:Int)=0:=by omega
     go_wp2_with fail
     refine(hP.out).mono ?_
     rintro e w' ⟨rfl,rfl⟩
     go_wp2_with fail
     go_ret
     exact⟨by rw[hb.out];rfl,rfl⟩
   ·obtain rfl:pos=s.size:=by omega
    have hb:qpht s.data.toList= -1:=by unfold qpht;rw[hf,←q4ad,if_neg (Nat.lt_irrefl _)]
    have hb:=Lib.hid (hz.out.symm.trans hb)
    clear he hpos hr hf h0 hfl
    go_wp2_with fail
    go_ret
    exact⟨by rw[hb.out];rfl,rfl⟩
  ·have hcp:=qp6t c
   have hc0:=hc.1
   rw[←q4ad] at hle
   have hlt:pos < s.size:=by omega
   have hP:=q1zs s pos w hs hlt
   rw[hp] at hP
   obtain⟨k,hk⟩:∃k,(cb c).length=k:=⟨_,rfl⟩
   dsimp only at hP
   rw[hk] at hP hcp hle
   have hP:=Lib.hid hP
   have NEXT:=Lib.hid (show pts s.data.toList=(cs++[c])++t∧(cbs (cs++[c])).length=pos+k from⟨by rw[he,List.append_assoc];rfl,by rw[q6ts,List.length_append,hpos,hk]⟩)
   have g1:(pos:Int) < (s.size:Int):=by omega
   have g2:((k:Int)==0)=false:=by rw[beq_eq_false_iff_ne];omega
   have g3:((c:Int)==0)=false:=by rw[beq_eq_false_iff_ne];omega
   have g4:(pos:Int)+(k:Int)≤70000:=by omega
   have GG:=Lib.hid (show 0 < k∧pos < s.size from⟨hcp,hlt⟩)
   clear he hpos hp hk hc hcp hc0 hle hlt
   go_wp2_with fail
   refine(hP.out).mono ?_
   rintro e w' ⟨rfl,rfl⟩
   go_wp2_with fail
   go_round
   case rel=>exact⟨cs++[c],t,pos+k,NEXT.out.1,NEXT.out.2,by rw[Int.natCast_add]⟩
   case measure=>have:=GG.out;simp[intOf];omega
theorem qcip(s:ByteArray)(w:World) :
 Calls Tryz.prog 108 #[.string s] w fun e w'=>e = .returned (.bool (qecx s.data.toList))∧w=w':=by
 by_cases h1:s.size≤65535
 ·have hb:=Lib.hid (ql8r s w (by omega))
  have hv:qecx s.data.toList=decide (qpht s.data.toList < 0):=by
   unfold qecx
   rw[←q4ad]
   simp[h1]
  obtain⟨z,hz⟩:∃z,qpht s.data.toList=z:=⟨_,rfl⟩
  rw[hz] at hv hb
  have hv:=Lib.hid hv
  go_enter Tryz.func108,Tryz.ntmps108
  go_wp2_with fail
  refine(hb.out).mono ?_
  rintro e w' ⟨rfl,rfl⟩
  go_wp2_with fail
  go_ret
  exact⟨by rw[hv.out];rfl,rfl⟩
 ·have hv:qecx s.data.toList=false:=by
   unfold qecx
   rw[←q4ad]
   simp;omega
  have h2:65535 < s.size:=by omega
  clear h1
  rw[hv]
  go_enter Tryz.func108,Tryz.ntmps108
  go_wp2_with fail
  go_ret
  exact⟨rfl,rfl⟩
theorem qwdg(s:ByteArray)(c:UInt8)(w:World)(hs:s.size≤200000):Calls Tryz.prog 135 #[.string s,.int .u8 c.toNat] w fun e w'=>e = .returned (.bool (decide (c∈s.data.toList)))∧w=w':=by
 obtain⟨C,hC⟩:∃C,decide (c∈s.data.toList)=C:=⟨_,rfl⟩
 rw[hC]
 have HC:=Lib.hid hC
 obtain⟨m,hm⟩:∃m,c.toNat=m:=⟨_,rfl⟩
 rw[hm]
 have HM:=Lib.hid hm
 have q0:(s.size:Int)≤200000:=by omega
 clear hC hm hs
 go_enter Tryz.func135,Tryz.ntmps135
 go_wp2_with fail
 go_loopg [5] s.size (fun gk v wx=>∃k:Nat,k≤s.size∧gk=s.size - k∧v = .int .i64 (k:Int)∧wx=w∧∀j x,j < k→s.data.toList[j]? = some x→x≠c)
 case atStart=>exact⟨0,Nat.zero_le _,rfl,rfl,rfl,fun j x h=>by omega⟩
 case round=>
  obtain⟨k,hk,rfl,rfl,rfl,hno⟩:=hrel
  have HNO:=Lib.hid hno
  by_cases hlt:k < s.size
  ·have q1:(k:Int) < (s.size:Int):=by omega
   have hx:s.data.toList[k]? = some s[k]:=by rw[List.getElem?_eq_getElem (by rw[←q4ad];exact hlt)];rfl
   have HX:=Lib.hid hx
   have HL:=Lib.hid hlt
   obtain⟨r,hr⟩:∃r,s[k].toNat=r:=⟨_,rfl⟩
   have HR:=Lib.hid hr
   clear hno hx hk
   by_cases he:s[k]=c
   ·have hrm:r=m:=by rw[←hr,←HM.out,he]
    have:C=true:=by rw[←HC.out];exact decide_eq_true (List.mem_of_getElem? (HX.out.trans (congrArg some he)))
    subst this
    subst hrm
    clear he HC
    go_wp2_with fail
    go_ret
    exact⟨rfl,rfl⟩
   ·have hrm:¬r=m:=by rw[←hr,←HM.out];exact fun h=>he (UInt8.toNat.inj h)
    have q2:((r:Int)==(m:Int))=false:=by rw[beq_eq_false_iff_ne];omega
    have HE:=Lib.hid he
    clear he hrm
    go_wp2_with fail
    go_roundg (s.size - (k+1))
    case measure=>have:=HL.out;omega
    case rel=>
     refine⟨k+1,by have:=HL.out;omega,rfl,by go_num,rfl,fun j y hj hy=>?_⟩
     by_cases hjk:j=k
     ·subst hjk
      have:=hy.symm.trans HX.out
      injection this with this
      rw[this];exact HE.out
     ·exact HNO.out j y (by omega) hy
  ·obtain rfl:k=s.size:=by omega
   have:C=false:=by
    rw[←HC.out]
    refine decide_eq_false fun h=>?_
    obtain⟨j,hj⟩:=List.mem_iff_getElem?.1 h
    exact HNO.out j c (by have:=(List.getElem?_eq_some_iff.1 hj).1;rw[←q4ad] at this;exact this) hj rfl
   subst this
   clear hno hlt hk HC
   go_wp2_with fail
   go_ret
   exact⟨rfl,rfl⟩
theorem qxw2(s:ByteArray)(w:World)(hs:s.size≤200000):Calls Tryz.prog 109 #[.string s] w fun e w'=>e = .returned (.bool (q95c s.data.toList))∧w=w':=by
 have H43:=Lib.hid (show Calls Tryz.prog 135 #[.string s,.int .u8 43] w fun e w'=>e = .returned (.bool (decide ((43:UInt8)∈s.data.toList)))∧w=w' from qwdg s 43 w hs)
 have H35:=Lib.hid (show Calls Tryz.prog 135 #[.string s,.int .u8 35] w fun e w'=>e = .returned (.bool (decide ((35:UInt8)∈s.data.toList)))∧w=w' from qwdg s 35 w hs)
 have VA:=Lib.hid (qcip s w)
 have hn:q95c s.data.toList=(decide (s.data.toList≠[])&&qecx s.data.toList&&!decide ((43:UInt8)∈s.data.toList)&&!decide ((35:UInt8)∈s.data.toList)):=by
  unfold q95c
  simp
 rw[hn]
 have he:decide (s.data.toList≠[])=!(s.toList==[]):=by rw[qrze];cases s.data.toList<;>rfl
 rw[he]
 generalize hb0:(s.toList==[])=b0
 generalize hbv:qecx s.data.toList=bv at *
 generalize decide ((43:UInt8)∈s.data.toList)=b1 at *
 generalize decide ((35:UInt8)∈s.data.toList)=b2 at *
 have h10:s.toList.isEmpty=b0:=by rw[←hb0];cases s.toList<;>rfl
 clear hn he hbv hs
 cases b0<;>cases bv<;>cases b1<;>cases b2<;>
 ·go_enter Tryz.func109,Tryz.ntmps109
  go_wp2_with (first | (go_at_call 108;with_reducible refine(VA.out).mono ?_;rintro e w1 ⟨rfl,rfl⟩) | (go_at_call 135;with_reducible refine(H43.out).mono ?_;rintro e w1 ⟨rfl,rfl⟩) | (go_at_call 135;with_reducible refine(H35.out).mono ?_;rintro e w1 ⟨rfl,rfl⟩))
  go_ret
  exact⟨rfl,rfl⟩
theorem qfwd:(Tryz.prog.info? 3).map (fun i=>(i.zero,i.size,i.bytes))=some (some (.int .i64 0),1,8):=by kernel_rfl
def iv(n:Nat):Value := .int .i64 (n:Int)
theorem qrw1{B n:Nat}{wx wy:World}{v:Value}{xs:List Value}(hB:B≤wx.heap.size)(h:wx.ownsRow B 3 1 v n xs)(o:Obj)(hg:(wx.alloc o).grownBy wy v.ownBlock):Below B wx wy:=by
 rcases h.2 with ⟨rfl,_⟩ | ⟨gb,cap,cur,rfl,hbg,_⟩
 ·exact((Below.refl B wx).alloc hB o).trans ⟨hg.os,hg.tape,hg.output,hg.size,fun j hj=>hg.block j (by simp only[World.size_alloc];omega) (fun e=>by cases e)⟩
 ·exact((Below.refl B wx).alloc hB o).trans ⟨hg.os,hg.tape,hg.output,hg.size,fun j hj=>hg.block j (by simp only[World.size_alloc];omega) (fun e=>by cases e;have h9:gb < B:=hj;omega)⟩
theorem qwz9(W:World)(B n:Nat)(l:List Nat)(cs:Array Value)(hB:B≤W.heap.size)(hn:l.length=n)(hm:n≤500)(hc:cs=(l.map iv).toArray):(W.alloc (.cells cs 3)).ownsRow B 3 1 (.slice (some ⟨W.heap.size,0,none⟩) n n) n (l.map iv):=by
 subst hc
 exact⟨by simp[hn],.inr ⟨_,n,_,rfl,hB,heap_alloc_new W _,Nat.le_refl _,by unfold maxLen;omega,by simp[hn],by rw[List.take_of_length_le (by simp[hn])]⟩⟩
theorem qa73(B:Nat)(v:Value)(xs:List Nat)(n a m:Nat)(b:Int)(W:World)(hB:B≤W.heap.size)(hn:xs.length=n)(ho:W.ownsRow B 3 1 v n (xs.map iv))(hb:b+1=((a+m:Nat):Int))(h1:n≤500)(h2:a+m≤500) :
 Calls Tryz.prog 105 #[v,.int .i64 (a:Int),.int .i64 b] W fun e W'=>∃v',e = .returned v'∧W'.ownsRow B 3 1 v' (n+m) ((xs++List.range' a m).map iv)∧Below B W W':=by
 obtain⟨i0,hi,hz0,hz1,hz2⟩:=info_parts qfwd
 have HO:=Lib.hid ho
 have HB:=Lib.hid hB
 have HE:=Lib.hid hb
 have b0:0≤b+1:=by omega
 have b1:b≤500:=by omega
 have H1:=Lib.hid h1
 have H2:=Lib.hid h2
 have HN:=Lib.hid hn
 clear ho hB hb h1 h2 hn
 go_enter Tryz.func105,Tryz.ntmps105
 go_wp2_with fail
 go_loopg [0,1] m (fun gk s0 s1 wx=>∃k:Nat,k≤m∧gk=m - k∧s1 = .int .i64 ((a+k:Nat):Int)∧wx.ownsRow B 3 1 s0 (n+k) ((xs++List.range' a k).map iv)∧Below B W wx)
 case atStart=>exact⟨0,Nat.zero_le _,rfl,rfl,by simpa using HO.out,Below.refl _ _⟩
 case round=>
  obtain⟨k,hk,rfl,rfl,hown,hlow⟩:=hrel
  have LW:=Lib.hid hlow
  have hbs:B≤wr.heap.size:=Nat.le_trans HB.out hlow.size
  clear hlow
  by_cases hlt:k < m
  ·have HK:=Lib.hid hlt
   have t1:((a+k:Nat):Int)≤b:=by have:=HE.out;omega
   have t2:((a+k:Nat):Int)≤500:=by have:=H2.out;omega
   obtain⟨c,hc⟩:∃c,a+k=c:=⟨_,rfl⟩
   rw[hc] at t1 t2 ⊢
   have HC:=Lib.hid hc
   have HW:=Lib.hid hown
   clear hlt hc
   go_wp2_with (at_builtin;refine wpList_append_own _ rfl _ _ 32 rfl B 3 i0 (.int .i64 0) 1 8 Tryz.underlying32 hi hz0 hz1 hz2 rfl (by decide) _ _ _ rfl (hown.alloc _) ⟨wr.heap.size,0,none⟩ 1 1 [.int .i64 (c:Int)] rfl rfl ?c1 ?c2 ?c3 ?c4 ?c5 ?_)
   case c1=>intro j u hj;cases j<;>simp at hj;subst hj;exact World.cell?_alloc_at _ _ _ _ rfl
   case c2=>intro u hu;simp at hu;subst hu;rfl
   case c3=>have:=H1.out;have:=H2.out;have:=HK.out;unfold maxLen;omega
   case c4=>have:=H1.out;have:=H2.out;have:=HK.out;omega
   case c5=>simp only[World.size_alloc];omega
   intro v' w9 hown' hgrow _
   have HM:=Lib.hid (LW.out.trans (qrw1 hbs HW.out _ hgrow))
   have HN':=Lib.hid (show w9.ownsRow B 3 1 v' (n+(k+1)) ((xs++List.range' a (k+1)).map iv) by
    rw[List.range'_concat,←List.append_assoc,List.map_append]
    have e:([a+1*k]:List Nat).map iv=[.int .i64 (c:Int)]:=by rw[Nat.one_mul,HC.out];rfl
    rw[e,List.map_append,List.append_assoc]
    exact hown')
   clear hown' hgrow hown HW
   go_wp2_with fail
   go_roundg (m - (k+1))
   case measure=>have:=HK.out;omega
   case rel=>exact⟨k+1,HK.out,rfl,by rw[show a+(k+1)=c+1 by have:=HC.out;omega];go_num,HN'.out,HM.out⟩
  ·obtain rfl:k=m:=by omega
   have t1:b < ((a+k:Nat):Int):=by have:=HE.out;omega
   obtain⟨c,hc⟩:∃c,a+k=c:=⟨_,rfl⟩
   rw[hc] at t1 ⊢
   have HW:=Lib.hid hown
   clear hown hlt hc
   go_wp2_with fail
   go_ret
   exact⟨_,rfl,HW.out,LW.out⟩
theorem qhlg(w:World):Calls Tryz.prog 67 #[.int .i64 4] w fun e w'=>∃v,e = .returned v∧w'.ownsRow w.heap.size 3 1 v (qedv 2).length ((qedv 2).map iv)∧Below w.heap.size w w':=by
 have HO:=Lib.hid (qwz9 w w.heap.size 9 [0,16,128,131,135,144,145,151,153] #[.int .i64 0,.int .i64 16,.int .i64 128,.int .i64 131,.int .i64 135,.int .i64 144,.int .i64 145,.int .i64 151,.int .i64 153] (Nat.le_refl _) rfl (by decide) rfl)
 have HL:=Lib.hid (show Below w.heap.size w (w.alloc (.cells #[.int .i64 0,.int .i64 16,.int .i64 128,.int .i64 131,.int .i64 135,.int .i64 144,.int .i64 145,.int .i64 151,.int .i64 153] 3)) from(Below.refl _ _).alloc (Nat.le_refl _) _)
 go_enter Tryz.func67,Tryz.ntmps67
 go_wp2_with fail
 go_ret
 exact⟨_,rfl,HO.out,HL.out⟩
theorem qrap(w:World):Calls Tryz.prog 67 #[.int .i64 5] w fun e w'=>∃v,e = .returned v∧w'.ownsRow w.heap.size 3 1 v (qedv 2).length ((qedv 2).map iv)∧Below w.heap.size w w':=by
 have HO:=Lib.hid (qwz9 w w.heap.size 9 [0,16,128,131,135,144,145,151,153] #[.int .i64 0,.int .i64 16,.int .i64 128,.int .i64 131,.int .i64 135,.int .i64 144,.int .i64 145,.int .i64 151,.int .i64 153] (Nat.le_refl _) rfl (by decide) rfl)
 have HL:=Lib.hid (show Below w.heap.size w (w.alloc (.cells #[.int .i64 0,.int .i64 16,.int .i64 128,.int .i64 131,.int .i64 135,.int .i64 144,.int .i64 145,.int .i64 151,.int .i64 153] 3)) from(Below.refl _ _).alloc (Nat.le_refl _) _)
 go_enter Tryz.func67,Tryz.ntmps67
 go_wp2_with fail
 go_ret
 exact⟨_,rfl,HO.out,HL.out⟩
theorem qhmc(w:World):Calls Tryz.prog 67 #[.int .i64 6] w fun e w'=>∃v,e = .returned v∧w'.ownsRow w.heap.size 3 1 v (qedv 3).length ((qedv 3).map iv)∧Below w.heap.size w w':=by
 have HO:=Lib.hid (qwz9 w w.heap.size 2 [0,146] #[.int .i64 0,.int .i64 146] (Nat.le_refl _) rfl (by decide) rfl)
 have HL:=Lib.hid (show Below w.heap.size w (w.alloc (.cells #[.int .i64 0,.int .i64 146] 3)) from(Below.refl _ _).alloc (Nat.le_refl _) _)
 go_enter Tryz.func67,Tryz.ntmps67
 go_wp2_with fail
 go_ret
 exact⟨_,rfl,HO.out,HL.out⟩
theorem q7yj(w:World):Calls Tryz.prog 67 #[.int .i64 7] w fun e w'=>∃v,e = .returned v∧w'.ownsRow w.heap.size 3 1 v (qedv 3).length ((qedv 3).map iv)∧Below w.heap.size w w':=by
 have HO:=Lib.hid (qwz9 w w.heap.size 2 [0,146] #[.int .i64 0,.int .i64 146] (Nat.le_refl _) rfl (by decide) rfl)
 have HL:=Lib.hid (show Below w.heap.size w (w.alloc (.cells #[.int .i64 0,.int .i64 146] 3)) from(Below.refl _ _).alloc (Nat.le_refl _) _)
 go_enter Tryz.func67,Tryz.ntmps67
 go_wp2_with fail
 go_ret
 exact⟨_,rfl,HO.out,HL.out⟩
theorem qow2(w:World):Calls Tryz.prog 67 #[.int .i64 9] w fun e w'=>∃v,e = .returned v∧w'.ownsRow w.heap.size 3 1 v (qedv 4).length ((qedv 4).map iv)∧Below w.heap.size w w':=by
 have HO:=Lib.hid (qwz9 w w.heap.size 12 [0,1,2,128,131,135,143,145,151,158,161,162] #[.int .i64 0,.int .i64 1,.int .i64 2,.int .i64 128,.int .i64 131,.int .i64 135,.int .i64 143,.int .i64 145,.int .i64 151,.int .i64 158,.int .i64 161,.int .i64 162] (Nat.le_refl _) rfl (by decide) rfl)
 have HL:=Lib.hid (show Below w.heap.size w (w.alloc (.cells #[.int .i64 0,.int .i64 1,.int .i64 2,.int .i64 128,.int .i64 131,.int .i64 135,.int .i64 143,.int .i64 145,.int .i64 151,.int .i64 158,.int .i64 161,.int .i64 162] 3)) from(Below.refl _ _).alloc (Nat.le_refl _) _)
 go_enter Tryz.func67,Tryz.ntmps67
 go_wp2_with fail
 go_ret
 exact⟨_,rfl,HO.out,HL.out⟩
theorem qljn(w:World):Calls Tryz.prog 67 #[.int .i64 11] w fun e w'=>∃v,e = .returned v∧w'.ownsRow w.heap.size 3 1 v (qedv 5).length ((qedv 5).map iv)∧Below w.heap.size w w':=by
 have HO:=Lib.hid (qwz9 w w.heap.size 7 [0,17,128,131,135,143,145] #[.int .i64 0,.int .i64 17,.int .i64 128,.int .i64 131,.int .i64 135,.int .i64 143,.int .i64 145] (Nat.le_refl _) rfl (by decide) rfl)
 have HL:=Lib.hid (show Below w.heap.size w (w.alloc (.cells #[.int .i64 0,.int .i64 17,.int .i64 128,.int .i64 131,.int .i64 135,.int .i64 143,.int .i64 145] 3)) from(Below.refl _ _).alloc (Nat.le_refl _) _)
 go_enter Tryz.func67,Tryz.ntmps67
 go_wp2_with fail
 go_ret
 exact⟨_,rfl,HO.out,HL.out⟩
theorem qkxj(w:World):Calls Tryz.prog 67 #[.int .i64 15] w fun e w'=>∃v,e = .returned v∧w'.ownsRow w.heap.size 3 1 v (qedv 7).length ((qedv 7).map iv)∧Below w.heap.size w w':=by
 have HO:=Lib.hid (qwz9 w w.heap.size 3 [0,24,25] #[.int .i64 0,.int .i64 24,.int .i64 25] (Nat.le_refl _) rfl (by decide) rfl)
 have HL:=Lib.hid (show Below w.heap.size w (w.alloc (.cells #[.int .i64 0,.int .i64 24,.int .i64 25] 3)) from(Below.refl _ _).alloc (Nat.le_refl _) _)
 go_enter Tryz.func67,Tryz.ntmps67
 go_wp2_with fail
 go_ret
 exact⟨_,rfl,HO.out,HL.out⟩
theorem qs4u(W:World)(l:List Value)(t:TypeId):∀j u,l[j]? = some u→(W.alloc (.cells l.toArray t)).cell? ((⟨W.heap.size,0,none⟩:Addr).add j)=some u:=fun j u h=>by
 have hadd:(⟨W.heap.size,0,none⟩:Addr).add j=⟨W.heap.size,j,none⟩:=by unfold Addr.add;split<;>simp_all
 rw[hadd,World.cell?_alloc_at _ _ _ _ rfl]
 simpa using h
theorem qoeu(w:World):Calls Tryz.prog 67 #[.int .i64 2] w fun e w'=>∃v,e = .returned v∧w'.ownsRow w.heap.size 3 1 v (qedv 1).length ((qedv 1).map iv)∧Below w.heap.size w w':=by
 obtain⟨i0,hi,hz0,hz1,hz2⟩:=info_parts qfwd
 have HO:=Lib.hid (qwz9 w w.heap.size 1 [0] #[.int .i64 0] (Nat.le_refl _) rfl (by decide) rfl)
 have HL0:=Lib.hid (show Below w.heap.size w (w.alloc (.cells #[.int .i64 0] 3)) from(Below.refl _ _).alloc (Nat.le_refl _) _)
 go_enter Tryz.func67,Tryz.ntmps67
 go_wp2_with fail
 refine(qa73 w.heap.size _ [0] 1 128 11 138 _ (by simp) rfl HO.out (by decide) (by decide) (by decide)).mono ?_
 rintro e w1 ⟨v1,rfl,ho1,hb⟩
 have HL1:=Lib.hid (HL0.out.trans hb)
 have hs1:=HL1.out.size
 clear hb HO HL0
 go_wp2_with (at_builtin;refine wpList_append_own _ rfl _ _ 32 rfl w.heap.size 3 i0 (.int .i64 0) 1 8 Tryz.underlying32 hi hz0 hz1 hz2 rfl (by decide) _ _ _ rfl (ho1.alloc _) ⟨w1.heap.size,0,none⟩ 4 4 [.int .i64 140,.int .i64 144,.int .i64 149,.int .i64 151] rfl rfl ?c1 ?c2 ?c3 ?c4 ?c5 ?_)
 case c1=>exact qs4u _ _ _
 case c2=>decide
 case c3=>unfold maxLen;omega
 case c4=>omega
 case c5=>simp only[World.size_alloc];omega
 intro v2 w2 ho2 hg2 _
 have HL2:=Lib.hid (HL1.out.trans (qrw1 (by omega) ho1 _ hg2))
 have hs2:=HL2.out.size
 clear hg2
 have ho2':=Lib.hid (show w2.ownsRow w.heap.size 3 1 v2 16 (([0,128,129,130,131,132,133,134,135,136,137,138,140,144,149,151]:List Nat).map iv) from ho2)
 clear ho1 ho2
 go_wp2_with fail
 refine(qa73 w.heap.size _ [0,128,129,130,131,132,133,134,135,136,137,138,140,144,149,151] 16 153 5 157 _ hs2 rfl ho2'.out (by decide) (by decide) (by decide)).mono ?_
 rintro e w3 ⟨v3,rfl,ho3,hb⟩
 have HL3:=Lib.hid (HL2.out.trans hb)
 have hs3:=HL3.out.size
 clear hb ho2'
 go_wp2_with (at_builtin;refine wpList_append_own _ rfl _ _ 32 rfl w.heap.size 3 i0 (.int .i64 0) 1 8 Tryz.underlying32 hi hz0 hz1 hz2 rfl (by decide) _ _ _ rfl (ho3.alloc _) ⟨w3.heap.size,0,none⟩ 1 1 [.int .i64 159] rfl rfl ?c1 ?c2 ?c3 ?c4 ?c5 ?_)
 case c1=>exact qs4u _ _ _
 case c2=>decide
 case c3=>unfold maxLen;omega
 case c4=>omega
 case c5=>simp only[World.size_alloc];omega
 intro v4 w4 ho4 hg4 _
 have HL4:=Lib.hid (HL3.out.trans (qrw1 (by omega) ho3 _ hg4))
 have hs4:=HL4.out.size
 clear hg4
 have HO4:=Lib.hid ho4
 clear ho3 ho4
 go_wp2_with fail
 go_ret
 exact⟨_,rfl,HO4.out,HL4.out⟩
theorem qq1s(w:World):Calls Tryz.prog 67 #[.int .i64 14] w fun e w'=>∃v,e = .returned v∧w'.ownsRow w.heap.size 3 1 v (qedv 6).length ((qedv 6).map iv)∧Below w.heap.size w w':=by
 obtain⟨i0,hi,hz0,hz1,hz2⟩:=info_parts qfwd
 have HO:=Lib.hid (qwz9 w w.heap.size 2 [0,4] #[.int .i64 0,.int .i64 4] (Nat.le_refl _) rfl (by decide) rfl)
 have HL0:=Lib.hid (show Below w.heap.size w (w.alloc (.cells #[.int .i64 0,.int .i64 4] 3)) from(Below.refl _ _).alloc (Nat.le_refl _) _)
 go_enter Tryz.func67,Tryz.ntmps67
 go_wp2_with fail
 refine(qa73 w.heap.size _ [0,4] 2 128 4 131 _ (by simp) rfl HO.out (by decide) (by decide) (by decide)).mono ?_
 rintro e w1 ⟨v1,rfl,ho1,hb⟩
 have HL1:=Lib.hid (HL0.out.trans hb)
 have hs1:=HL1.out.size
 clear hb HO HL0
 go_wp2_with (at_builtin;refine wpList_append_own _ rfl _ _ 32 rfl w.heap.size 3 i0 (.int .i64 0) 1 8 Tryz.underlying32 hi hz0 hz1 hz2 rfl (by decide) _ _ _ rfl (ho1.alloc _) ⟨w1.heap.size,0,none⟩ 7 7 [.int .i64 135,.int .i64 137,.int .i64 139,.int .i64 141,.int .i64 142,.int .i64 143,.int .i64 144] rfl rfl ?c1 ?c2 ?c3 ?c4 ?c5 ?_)
 case c1=>exact qs4u _ _ _
 case c2=>decide
 case c3=>unfold maxLen;omega
 case c4=>omega
 case c5=>simp only[World.size_alloc];omega
 intro v2 w2 ho2 hg2 _
 have HL2:=Lib.hid (HL1.out.trans (qrw1 (by omega) ho1 _ hg2))
 have hs2:=HL2.out.size
 clear hg2
 have ho2':=Lib.hid (show w2.ownsRow w.heap.size 3 1 v2 13 (([0,4,128,129,130,131,135,137,139,141,142,143,144]:List Nat).map iv) from ho2)
 clear ho1 ho2
 go_wp2_with fail
 refine(qa73 w.heap.size _ [0,4,128,129,130,131,135,137,139,141,142,143,144] 13 147 16 162 _ hs2 rfl ho2'.out (by decide) (by decide) (by decide)).mono ?_
 rintro e w3 ⟨v3,rfl,ho3,hb⟩
 have HL3:=Lib.hid (HL2.out.trans hb)
 have hs3:=HL3.out.size
 clear hb ho2'
 have HO4:=Lib.hid ho3
 clear ho3
 go_wp2_with fail
 go_ret
 exact⟨_,rfl,HO4.out,HL3.out⟩
theorem qhce(kind:Int)(w:World)(h:grp kind=0):Calls Tryz.prog 67 #[.int .i64 kind] w fun e w'=>∃v,e = .returned v∧w'.ownsRow w.heap.size 3 1 v (qedv 0).length ((qedv 0).map iv)∧Below w.heap.size w w':=by
 unfold grp at h
 have a1:¬kind=2:=fun e=>by subst e;simp at h
 have a4:¬kind=4:=fun e=>by subst e;simp at h
 have a5:¬kind=5:=fun e=>by subst e;simp at h
 have a6:¬kind=6:=fun e=>by subst e;simp at h
 have a7:¬kind=7:=fun e=>by subst e;simp at h
 have a9:¬kind=9:=fun e=>by subst e;simp at h
 have a11:¬kind=11:=fun e=>by subst e;simp at h
 have a14:¬kind=14:=fun e=>by subst e;simp at h
 have a15:¬kind=15:=fun e=>by subst e;simp at h
 clear h
 go_enter Tryz.func67,Tryz.ntmps67
 go_wp2_with fail
 go_ret
 exact⟨_,rfl,World.ownsRow_nil _ _ _ _,Below.refl _ _⟩
theorem qez7(kind:Int)(w:World):Calls Tryz.prog 67 #[.int .i64 kind] w fun e w'=>∃v,e = .returned v∧w'.ownsRow w.heap.size 3 1 v (qedv (grp kind)).length ((qedv (grp kind)).map iv)∧Below w.heap.size w w':=by
 by_cases k2:kind=2
 ·subst k2;exact qoeu w
 by_cases k4:kind=4
 ·subst k4;exact qhlg w
 by_cases k5:kind=5
 ·subst k5;exact qrap w
 by_cases k6:kind=6
 ·subst k6;exact qhmc w
 by_cases k7:kind=7
 ·subst k7;exact q7yj w
 by_cases k9:kind=9
 ·subst k9;exact qow2 w
 by_cases k11:kind=11
 ·subst k11;exact qljn w
 by_cases k14:kind=14
 ·subst k14;exact qq1s w
 by_cases k15:kind=15
 ·subst k15;exact qkxj w
 have hg:grp kind=0:=by
  unfold grp
  simp[k2,k4,k5,k6,k7,k9,k11,k14,k15]
 rw[hg]
 exact qhce kind w hg
theorem qktc{W:World}{B:Nat}{v:Value}{l:List Nat}(h:W.ownsRow B 3 1 v l.length (l.map iv)) :
 (l=[]∧v = .slice none 0 0)∨∃g c,v = .slice (some ⟨g,0,none⟩) l.length c∧g < W.heap.size∧∀(i x:Nat),l[i]? = some x→W.cell? ⟨g,i,none⟩=some (.int .i64 (x:Int)):=by
 rcases h.2 with ⟨rfl,hn⟩ | ⟨g,cap,cur,rfl,hbg,hg,hrest⟩
 ·exact .inl ⟨List.eq_nil_of_length_eq_zero hn,rfl⟩
 ·refine .inr ⟨g,cap,rfl,lt_of_block hg,fun i x hx=>?_⟩
  have hc:=h.cells (g:=g) rfl i (iv x) (by rw[List.getElem?_map,hx];rfl)
  have hadd:(⟨g,0,none⟩:Addr).add i=⟨g,i,none⟩:=by unfold Addr.add;split<;>simp_all
  rw[hadd] at hc
  exact hc
theorem qao6(l:List Nat)(code:Int):(l.any fun x=>(x:Int)==code)=(decide (0≤code)&&l.contains code.toNat):=by
 induction l with
 | nil=>simp
 | cons x l ih=>
  rw[List.any_cons,ih,List.contains_cons]
  by_cases h0:0≤code
  ·have:((x:Int)==code)=(code.toNat==x):=by rw[Bool.eq_iff_iff];simp;omega
   simp[this,h0]
  ·have:((x:Int)==code)=false:=by simp;omega
   simp[this,h0]
theorem q6m7:∀g < 8,(qedv g).length≤29:=by decide
theorem q6zo(kind code:Int)(w:World) :
 Calls Tryz.prog 39 #[.int .i64 kind,.int .i64 code] w fun e w'=>e = .returned (.bool (mayR kind code))∧Below w.heap.size w w':=by
 have RA:=Lib.hid (qez7 kind w)
 have HE:=Lib.hid (show((qedv (grp kind)).any fun x=>(x:Int)==code)=mayR kind code from qao6 _ _)
 have hlen:=q6m7 _ (qljz kind)
 generalize qedv (grp kind)=l at *
 have HLN:=Lib.hid hlen
 clear hlen
 go_enter Tryz.func39,Tryz.ntmps39
 go_wp2_with fail
 refine RA.out.mono ?_
 rintro e w1 ⟨v,rfl,ho,hb⟩
 have LB:=Lib.hid hb
 clear hb
 rcases qktc ho with ⟨rfl,rfl⟩ | ⟨g,c,rfl,_,hc⟩
 ·have HX:=Lib.hid (show mayR kind code=false from HE.out.symm)
  clear ho HE
  go_wp2_with fail
  go_loopg [6] 0 (fun gk s6 wx=>gk=0∧s6 = .int .i64 0∧w1=wx)
  case atStart=>exact⟨rfl,rfl,rfl⟩
  case round=>
   obtain⟨rfl,rfl,rfl⟩:=hrel
   go_wp2_with fail
   go_ret
   exact⟨by rw[HX.out];rfl,LB.out⟩
 ·have HC:=Lib.hid hc
  clear ho hc
  obtain⟨n,hn⟩:∃n,l.length=n:=⟨_,rfl⟩
  rw[hn]
  have HN:=Lib.hid hn
  have n1:(n:Int)≤29:=by have:=HLN.out;omega
  clear hn
  go_wp2_with fail
  go_loopg [6] n (fun gk s6 wx=>∃k:Nat,k≤n∧gk=n - k∧s6 = .int .i64 (k:Int)∧((l.take k).any fun x=>(x:Int)==code)=false∧w1=wx)
  case atStart=>exact⟨0,Nat.zero_le _,rfl,rfl,rfl,rfl⟩
  case round=>
   obtain⟨k,hk,rfl,rfl,hN,rfl⟩:=hrel
   have HM:=Lib.hid hN
   clear hN
   by_cases hlt:k < n
   ·have HK:=Lib.hid hlt
    have hkl:k < l.length:=by rw[HN.out];exact hlt
    obtain⟨x,hx⟩:∃x,l[k]? = some x:=⟨_,List.getElem?_eq_getElem hkl⟩
    have htk:l.take (k+1)=l.take k++[x]:=by rw[List.take_add_one,hx];rfl
    have hce:=HC.out k x hx
    have k1:(k:Int) < (n:Int):=by omega
    by_cases he:(x:Int)=code
    ·have HT:=Lib.hid (show mayR kind code=true by
      rw[←HE.out,List.any_eq_true]
      exact⟨x,List.mem_of_getElem? hx,by simpa using he⟩)
     subst he
     clear htk hx hkl
     go_wp2_with fail
     go_ret
     exact⟨by rw[HT.out];rfl,LB.out⟩
    ·have hb:((x:Int)==code)=false:=by simpa using he
     have HT:=Lib.hid (show((l.take (k+1)).any fun x=>(x:Int)==code)=false by
      rw[htk,List.any_append,HM.out]
      simp[hb])
     clear htk hx hkl
     go_wp2_with fail
     go_roundg (n - (k+1))
     case measure=>have:=HK.out;omega
     case rel=>exact⟨k+1,HK.out,rfl,by go_num,HT.out,rfl⟩
   ·obtain rfl:k=n:=by omega
    have HT:=Lib.hid (show mayR kind code=false by
     rw[←HE.out]
     have:=HM.out
     rw[List.take_of_length_le (by rw[HN.out];omega)] at this
     exact this)
    clear hlt
    go_wp2_with fail
    go_ret
    exact⟨by rw[HT.out];rfl,LB.out⟩
end Go.Proofs.YtbklidpadffpgaaGreat
