/- The walk of ControlBack. Condition: the packet's fields are what their types hold; the kind is an int; the length of the string. -/
import Derived.Deep.DeepCutAuto
import Derived.Test.YtbklidpadffpgaaGreatK42
import Derived.Test.YtbklidpadffpgaaGreatK50
import Derived.Test.YtbklidpadffpgaaGreatK17
import Derived.Test.YtbklidpadffpgaaGreatK07
import Derived.Test.YtbklidpadffpgaaGreatK15
import Derived.Test.YtbklidpadffpgaaGreatK22
import Derived.Test.YtbklidpadffpgaaGreatK30
import Derived.Test.YtbklidpadffpgaaGreatK23
set_option maxHeartbeats 2000000
set_option maxRecDepth 100000
namespace Go.Proofs.YtbklidpadffpgaaGreat
open Go.RowKit
theorem qpya{code:Int}{l:List Pr}{kind:Int}:(q4py code l kind).length≤300000010:=by
 unfold q4py
 split
 ·exact Nat.zero_le _
 ·rename_i h
  have hv:qpyu kind l=0:=by
   by_cases e:qpyu kind l=0
   ·exact e
   ·exact absurd (.inr (.inr e)) h
  have lt:=qp2i (v:=5) (kind:=kind) (l:=l) (by unfold qfk9;rw[if_pos rfl];exact hv)
  rw[qasq,if_pos rfl] at lt
  unfold qzno
  split
  ·rw[List.length_cons]
   split
   ·omega
   ·rw[List.length_nil];omega
  ·exact Nat.zero_le _
theorem qivy{v:Int}{p:Pk}(h:q1ra v p=0):(rawK v p).length≤300000010:=by
 rw[(qxi6 h).1]
 exact qpya
def qvav(Z:ByteArray)(c:Int)(n:Nat):Prop:=
 (c=0∧n=0∧(Z.toList==[])=true)∨((c==0)=false∧(c != 0)=true∧(Z.toList==[])=false)∨(c=0∧((n:Int)==0)=false∧(Z.toList==[])=false)
theorem q4hs{v:Int}{p:Pk}(h:q1ra v p=0):qvav (bs (rawK v p)) p.code p.props.length:=by
 obtain⟨_,h2⟩:=qxi6 h
 unfold qvav
 rw[q0c6]
 by_cases hc:p.code=0
 ·by_cases hl:p.props=[]
  ·left
   exact⟨hc,by rw[hl];rfl,by rw[h2.2 ⟨hc,hl⟩];rfl⟩
  ·right;right
   refine⟨hc,by have:=List.length_pos_iff.2 hl;simp;omega,?_⟩
   have:rawK v p≠[]:=fun e=>hl (h2.1 e).2
   simpa using this
 ·right;left
  refine⟨by simpa using hc,by simpa using hc,?_⟩
  have:rawK v p≠[]:=fun e=>hc (h2.1 e).1
  simpa using this
theorem q99q(v f:Int)(p:Pk)(a:Ad)(s:ByteArray)(w:World)(hp:PkAt w p a)(ok:PkOk p)(ca:PkCap p a)(hf:-9223372036854775808≤f∧f≤9223372036854775807)(hs:s.size≤9223372036854775807) :
 Calls Tryz.prog 5 #[.int .i64 v,pkV p a,.int .i64 f,.string s] w fun e w'=>e = .returned (.bool true)∧Below w.heap.size w w':=by
 have S0:=Lib.hid (BxS.made w p a)
 have LG:=fun W (h:BxS w p a W)=>q1dl p a W (hp.below h.low) ok
 have C1:=Lib.hid (qwmp p a)
 have HZ:=Lib.hid qbwp
 have hzv:=qrai
 have hne:¬pkZ=#[]:=by intro h;have:=qbwp;rw[h] at this;cases this
 cases hl:qa3g p with
 | false=>
  rw[hl] at LG
  replace LG:=Lib.hid LG
  clear hl
  unfold pkV at *
  go_enter Tryz.func5,Tryz.ntmps5
  go_wp2_with fail
  refine(qpnd _).mono ?_
  rintro e W ⟨rfl,hb⟩
  have S1:=Lib.hid (S0.out.call hb)
  clear hb
  go_wp2_with (refine wpList_load_row rfl _ _ rfl w.heap.size rfl 35 _ (0,0) _ S1.out.box Tryz.underlying35 rfl (by rw[C1.out];exact q5nr) ?_)
  refine(LG.out _ S1.out).mono ?_
  rintro e W2 ⟨rfl,hb⟩
  have L2:=Lib.hid (qxh2 S1.out.low hb)
  clear hb
  go_wp2_with fail
  go_ret
  exact⟨rfl,L2.out⟩
 | true=>
  rw[hl] at LG
  have sh:=q2qrt hl
  have sp:q21o p:=⟨by omega,by omega,by omega,by omega⟩
  replace LG:=Lib.hid LG
  clear hl sh
  by_cases h2:2000 < s.size
  ·have hd:decide ((2000:Int) < (s.size:Int))=true:=decide_eq_true (by omega)
   clear h2
   unfold pkV at *
   go_enter Tryz.func5,Tryz.ntmps5
   go_wp2_with fail
   refine(qpnd _).mono ?_
   rintro e W ⟨rfl,hb⟩
   have S1:=Lib.hid (S0.out.call hb)
   clear hb
   go_wp2_with (refine wpList_load_row rfl _ _ rfl w.heap.size rfl 35 _ (0,0) _ S1.out.box Tryz.underlying35 rfl (by rw[C1.out];exact q5nr) ?_)
   refine(LG.out _ S1.out).mono ?_
   rintro e W2 ⟨rfl,hb⟩
   have L2:=Lib.hid (qxh2 S1.out.low hb)
   clear hb
   go_wp2_with fail
   go_ret
   exact⟨rfl,L2.out⟩
  ·have hd:decide ((2000:Int) < (s.size:Int))=false:=decide_eq_false (by omega)
   have BO:=fun W (h:BxS w p a W)=>qck4 v p a W (hp.below h.low) sp ok ca.pc
   have VA:=fun W (h:BxS w p a W)=>qcuz v p a W (hp.below h.low) sp ok ca.pc
   have HP:=Lib.hid hp
   have SP:=Lib.hid sp
   have HS:=Lib.hid (show s.size≤140737488351232 by omega)
   have HF:=Lib.hid hf
   have HK:=Lib.hid ok.kind
   have TL:=Lib.hid (fun W (h:BxS w p a W)=>qv9d p.code p.kind p a W (hp.below h.low) sp ok ca.pc ok.kind)
   have hE:q2jl v p=(if q1ra v p=0 then rawK v p else [],q1ra v p):=by
    unfold q2jl
    by_cases h:q1ra v p=0<;>simp[h]
   have R1:q1ra v p=0→qf4x v p.kind (rawK v p)=(p,0)∧(rawK v p).length≤300000010∧qvav (bs (rawK v p)) p.code p.props.length∧rawK v p=q4py p.code p.props p.kind:=fun h=>⟨qkt1 h,qivy h,q4hs h,(qxi6 h).1⟩
   obtain⟨AA,hAA⟩:∃AA,(if q1ra v p=0 then rawK v p else [])=AA:=⟨_,rfl⟩
   rw[hE,hAA] at BO
   generalize rawK v p=X at *
   generalize q1ra v p=E at *
   have RA:=Lib.hid hAA
   clear hAA
   replace BO:=Lib.hid BO
   replace VA:=Lib.hid VA
   replace R1:=Lib.hid R1
   have hEE:((E:Int) != (E:Int))=false:=by simp
   clear h2 hp sp hs hE ok ca hf
   unfold pkV at *
   go_enter Tryz.func5,Tryz.ntmps5
   go_wp2_with fail
   refine(qpnd _).mono ?_
   rintro e W ⟨rfl,hb⟩
   have S1:=Lib.hid (S0.out.call hb)
   clear hb
   go_wp2_with (refine wpList_load_row rfl _ _ rfl w.heap.size rfl 35 _ (0,0) _ S1.out.box Tryz.underlying35 rfl (by rw[C1.out];exact q5nr) ?_)
   refine(LG.out _ S1.out).mono ?_
   rintro e W2 ⟨rfl,hb⟩
   have S2:=Lib.hid (S1.out.call hb)
   clear hb S1 S0
   go_wp2_with (refine wpList_load_row rfl _ _ rfl w.heap.size rfl 35 _ (0,0) _ S2.out.box Tryz.underlying35 rfl (by rw[C1.out];exact q5nr) ?_)
   refine(BO.out _ S2.out).mono ?_
   rintro e W3 ⟨rfl,hb⟩
   have S3:=Lib.hid (S2.out.call hb)
   clear hb S2
   go_wp2_with (refine wpList_load_row rfl _ _ rfl w.heap.size rfl 35 _ (0,0) _ S3.out.box Tryz.underlying35 rfl (by rw[C1.out];exact q5nr) ?_)
   refine(VA.out _ S3.out).mono ?_
   rintro e W4 ⟨rfl,hb⟩
   have S4:=Lib.hid (S3.out.call hb)
   clear hb S3
   go_upto_if 39 with fail
   go_cut [] (fun wx=>Below w.heap.size w wx)
   case first=>
    by_cases h0:E=0
    ·have ha:=RA.out
     rw[if_pos h0] at ha
     obtain⟨r1,hx,hsz,htl⟩:=R1.out h0
     subst h0
     subst ha
     have RE:=fun W=>qpg4 v p.kind (bs X) W HK.out.1 HK.out.2 (by rw[q5zk];omega)
     rw[qkd1,r1] at RE
     have TA:=fun W (h:BxS w p a W)=>(TL.out W h).mono fun e W' hh=>(⟨hh.1,h.call hh.2⟩:_∧BxS w p a W')
     rw[←htl] at TA
     have TA:=Lib.hid TA
     generalize bs X=Z at *
     have hzz:(Z.toList != Z.toList)=false:=by simp
     have k0:W4.cell? ⟨w.heap.size,0,none⟩=some (.int .i64 p.kind):=S4.out.cell 0
     have K21:∀W,BxS w p a W→W.cell? ⟨w.heap.size,21,none⟩=some (.int .i64 p.code):=fun W h=>h.cell 21
     have K24:∀W,BxS w p a W→W.cell? ⟨w.heap.size,24,none⟩=some (.slice a.ps p.props.length a.pc):=fun W h=>h.cell 24
     have SM:=fun a6 W (h:BxS w p a W) (h6:PkAt W p a6)=>(qbsf p a6 a W h6 (HP.out.below h.low) SP.out.1 SP.out.2.1 SP.out.2.2.1 SP.out.2.2.2).mono fun e W' hh=>(⟨hh.1,h.call hh.2⟩:_∧BxS w p a W')
     unfold pkV at SM
     replace K21:=Lib.hid K21
     replace K24:=Lib.hid K24
     replace SM:=Lib.hid SM
     replace RE:=Lib.hid RE
     have SZ:=Lib.hid hsz
     clear r1 hx hsz htl RA R1 TL
     go_wp2_with fail
     refine(RE.out _).mono ?_
     rintro e W6 ⟨a6,rfl,at6,_,_,hb,_⟩
     have S6:=S4.out.call hb
     have hbx:Below W6.heap.size W6 ((W6.alloc (.cells pkZ 35)).setRow W6.heap.size (pkC p a6)):=q8xz (qybm _) (Nat.le_refl _) _
     have S7:=Lib.hid (S6.call hbx)
     have AT7:=Lib.hid (at6.below hbx)
     have R7:=Lib.hid (setRow_heap _ _ _ (pkC p a6) _ _ (heap_alloc_new W6 (.cells pkZ 35)))
     have HD1:=Lib.hid (qwmp p a6)
     have HD2:=Lib.hid (qmz0 p a6)
     clear hb at6 S6 hbx S4 k0
     go_upto_region 10 with (refine wpList_store_row rfl _ _ _ rfl W6.heap.size (pkC p a6) rfl rfl 35 _ (heap_alloc_new W6 _) (by rw[HD1.out];exact q5nr) (by rw[HZ.out,HD1.out]) HD2.out ?_)
     generalize (W6.alloc (.cells pkZ 35)).setRow W6.heap.size (pkC p a6)=W7 at *
     generalize W6.heap.size=b1 at *
     go_wp2_with (first
      | (refine q2a5 rfl _ _ rfl b1 rfl 35 _ (0,0) _ R7.out Tryz.underlying35 rfl (by rw[HD1.out];exact q5nr) ?_)
      | (refine q2a5 rfl _ _ rfl w.heap.size rfl 35 _ (0,0) _ S7.out.box Tryz.underlying35 rfl (by rw[C1.out];exact q5nr) ?_))
     refine(SM.out a6 _ S7.out AT7.out).mono ?_
     rintro e W8 ⟨rfl,hb⟩
     have S8:=Lib.hid hb
     have k0:W8.cell? ⟨w.heap.size,0,none⟩=some (.int .i64 p.kind):=hb.cell 0
     have k21:=K21.out W8 hb
     have k24:=K24.out W8 hb
     have TX:=Lib.hid (TA.out W8 hb)
     have hsz:=SZ.out
     clear hb S7 AT7 R7 SM K21 K24 SZ S8 TA
     generalize p.code=c at *
     generalize p.props.length=n at *
     rcases hsz with ⟨rfl,rfl,q2⟩ | ⟨e1,e2,q2⟩ | ⟨rfl,hn,q2⟩
     all_goals
      go_wp2_with fail
      refine(TX.out).mono ?_
      rintro e W9 ⟨rfl,hb⟩
      have L9:=Lib.hid hb.low
      clear hb
      go_wp2_with fail
      go_meet
      exact L9.out
    ·have ha:=RA.out
     rw[if_neg h0] at ha
     have g1:((E:Int)==0)=false:=by simp;omega
     have g2:((E:Int) != 0)=true:=by simp;omega
     have g3:((bs AA).toList==[])=true:=by rw[←ha,q0c6];rfl
     have g4:((bs AA).toList != [])=false:=by rw[←ha,q0c6];rfl
     have L4:=Lib.hid S4.out.low
     clear ha h0 S4 R1
     go_wp2_with fail
     go_meet
     exact L4.out
   case rest=>
    obtain⟨R,hR⟩:∃R,qf4x v f s.data.toList=R:=⟨_,rfl⟩
    have RR:=fun W=>qpg4 v f s W HF.out.1 HF.out.2 HS.out
    rw[hR] at RR
    have hz:=qgfx (v:=v) (k:=f) (l:=s.data.toList)
    have hb2:=qpsx (v:=v) (k:=f) (l:=s.data.toList)
    rw[hR] at hz hb2
    have HZ2:=Lib.hid hz
    have HB2:=Lib.hid hb2
    replace RR:=Lib.hid RR
    have L5:=Lib.hid hcut
    clear hcut S4 hR hz hb2 R1 RA
    go_wp2_with fail
    refine(RR.out _).mono ?_
    rintro e W6 ⟨a6,rfl,at6,pc6,ft6,hb,hz6⟩
    have hbx:Below W6.heap.size W6 ((W6.alloc (.cells pkZ 35)).setRow W6.heap.size (pkC R.1 a6)):=q8xz (qybm _) (Nat.le_refl _) _
    have L7:=Lib.hid (qxh2 (qxh2 L5.out hb) hbx)
    have AT7:=Lib.hid (at6.below hbx)
    have PC:=Lib.hid pc6
    have FT:=Lib.hid ft6
    have HZ6:=Lib.hid hz6
    have R7:=Lib.hid (setRow_heap _ _ _ (pkC R.1 a6) _ _ (heap_alloc_new W6 (.cells pkZ 35)))
    have HD1:=Lib.hid (qwmp R.1 a6)
    have HD2:=Lib.hid (qmz0 R.1 a6)
    clear hb at6 hbx L5 pc6 ft6 hz6
    go_upto_if 91 with (refine wpList_store_row rfl _ _ _ rfl W6.heap.size (pkC R.1 a6) rfl rfl 35 _ (heap_alloc_new W6 _) (by rw[HD1.out];exact q5nr) (by rw[HZ.out,HD1.out]) HD2.out ?_)
    generalize (W6.alloc (.cells pkZ 35)).setRow W6.heap.size (pkC R.1 a6)=W7 at *
    generalize W6.heap.size=b1 at *
    by_cases h0:R.2=0
    ·obtain⟨hv,hr,hf⟩:=HB2.out h0
     have BQ:=fun W (h:PkAt W R.1 a6)=>qck4 v R.1 a6 W h FT.out.2 FT.out.1 PC.out
     unfold q2jl at BQ
     rw[hv,hr,if_neg (by decide)] at BQ
     replace BQ:=Lib.hid BQ
     have g1:((R.2:Int)==0)=true:=by rw[h0];rfl
     have g2:((R.2:Int) != 0)=false:=by rw[h0];rfl
     have HKF:=Lib.hid hf
     clear hv hr hf h0
     go_wp2_with (refine wpList_load_row rfl _ _ rfl b1 rfl 35 _ (0,0) _ R7.out Tryz.underlying35 rfl (by rw[HD1.out];exact q5nr) ?_)
     refine(BQ.out _ AT7.out).mono ?_
     rintro e W8 ⟨rfl,hb⟩
     have L8:=Lib.hid (qxh2 L7.out hb)
     have r8:=(hb.block _ (lt_of_block R7.out)).trans R7.out
     have k0:W8.cell? ⟨b1,0,none⟩=some (.int .i64 f):=(cell_of_row _ _ 0 _ _ _ r8).trans (by rw[←HKF.out];rfl)
     have hss:((bs s.data.toList).toList==s.toList)=true:=by rw[qq4y];simp
     clear hb R7 r8
     go_wp2_with fail
     go_ret
     exact⟨rfl,L8.out⟩
    ·have g1:((R.2:Int)==0)=false:=by simp;omega
     have g2:((R.2:Int) != 0)=true:=by simp;omega
     have hk:pkC R.1 a6=pkZ:=by rw[HZ2.out h0,HZ6.out h0];rfl
     rw[hk] at R7 HD1
     clear h0 hk
     go_wp2_with (refine wpList_load_row rfl _ _ rfl b1 rfl 35 pkZ (0,0) _ R7.out Tryz.underlying35 rfl (by rw[HZ.out];exact q5nr) ?_)
     refine(qy61 _).mono ?_
     rintro e W8 ⟨rfl,hb⟩
     have L8:=Lib.hid (qxh2 L7.out hb)
     clear hb
     go_wp2_with fail
     go_ret
     exact⟨rfl,L8.out⟩
end Go.Proofs.YtbklidpadffpgaaGreat
