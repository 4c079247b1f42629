/- The walk of AckBack. Condition: the packet's fields are what their types hold; the kind is an int; the length of the string. -/
import Derived.Deep.DeepCutAuto
import Derived.Test.YthhdhagenmcbeaaGreatK49
import Derived.Test.YthhdhagenmcbeaaGreatK50
import Derived.Test.YthhdhagenmcbeaaGreatK19
import Derived.Test.YthhdhagenmcbeaaGreatK21
import Derived.Test.YthhdhagenmcbeaaGreatK15
set_option maxHeartbeats 2000000
set_option maxRecDepth 100000
namespace Go.Proofs.YthhdhagenmcbeaaGreat
open Go.RowKit
theorem qhzq{v k:Int}{l:List UInt8}(h:(q9uf v k l).2≠0):(q9uf v k l).1=Pk.zero:=by
 unfold q9uf at h ⊢
 split
 ·rfl
 ·rename_i h1
  rw[if_neg h1] at h
  simp only at h ⊢
  split
  ·rfl
  ·rename_i h2
   rw[if_neg h2] at h
   exact absurd rfl h
theorem qznl{v:Int}{p:Pk}(h:qryp v p=0):(rawA v p).length≤300000010:=by
 obtain⟨ho,hr⟩:=q858 h
 obtain⟨_,_,_,h4,_⟩:=ok_a ho
 have hvp:qpyu p.kind p.props=0:=by
  rw[←hr]
  unfold qfk9
  by_cases h5:v=5
  ·rw[if_pos h5]
  ·rw[if_neg h5]
   rcases(ok_a ho).1 with e | e
   ·rw[(h4 e).2];rfl
   ·exact absurd e h5
 have lt:=qp2i (v:=5) (kind:=p.kind) (l:=p.props) (by unfold qfk9;rw[if_pos rfl];exact hvp)
 rw[qasq,if_pos rfl] at lt
 unfold rawA qzno
 rw[List.length_append,q0rl]
 split
 ·rw[List.length_cons]
  split
  ·omega
  ·rw[List.length_nil];omega
 ·rw[List.length_nil];omega
def q9pu(m:Nat)(c:Int)(n:Nat):Prop:=
 (c=0∧n=0∧((m:Int)==2)=true∧((m:Int)==3)=false)∨((c==0)=false∧(c != 0)=true∧n=0∧((m:Int)==2)=false∧((m:Int)==3)=true)∨
  (((n:Int)==0)=false∧((m:Int)==2)=false∧((m:Int)==3)=false∧(c=0∨((c==0)=false∧(c != 0)=true)))
theorem qazu{v:Int}{p:Pk}(h:qryp v p=0):q9pu (rawA v p).length p.code p.props.length:=by
 obtain⟨h2,h3⟩:=qws7 h
 have e2:∀m k:Nat,(((m:Nat):Int)==(k:Int))=decide (m=k):=fun m k=>by
  rw[Bool.eq_iff_iff];simp;omega
 have e2':=e2 (rawA v p).length 2
 have e3':=e2 (rawA v p).length 3
 unfold q9pu
 rw[show((2:Nat):Int)=2 from rfl] at e2'
 rw[show((3:Nat):Int)=3 from rfl] at e3'
 rw[e2',e3']
 by_cases hp:p.props=[]
 ·by_cases hc:p.code=0
  ·left
   have:=h2.2 ⟨hc,hp⟩
   exact⟨hc,by rw[hp];rfl,decide_eq_true this,decide_eq_false (by omega)⟩
  ·right;left
   have:=h3.2 ⟨hc,hp⟩
   exact⟨by simpa using hc,by simpa using hc,by rw[hp];rfl,decide_eq_false (by omega),decide_eq_true this⟩
 ·right;right
  refine⟨by have:=List.length_pos_iff.2 hp;simp;omega,decide_eq_false fun e=>hp (h2.1 e).2,decide_eq_false fun e=>hp (h3.1 e).2,?_⟩
  by_cases hc:p.code=0
  ·exact .inl hc
  ·exact .inr ⟨by simpa using hc,by simpa using hc⟩
theorem qjo1(v f:Int)(p:Pk)(a:Ad)(s:ByteArray)(w:World)(hp:PkAt w p a)(ok:PkOk p)(ca:PkCap p a)(hf:-9223372036854775808≤f∧f≤9223372036854775807)(hs:s.size≤9223372036854775807) :
 Calls Tryz.prog 5 #[.int .i64 v,pkV p a,.int .i64 f,.string s] w fun e w'=>e = .returned (.bool true)∧Below w.heap.size w w':=by
 have S0:=Lib.hid (BxS.made w p a)
 have LG:=fun W (h:BxS w p a W)=>q1dl p a W (hp.below h.low) ok
 have C1:=Lib.hid (qwmp p a)
 have HZ:=Lib.hid qbwp
 have hzv:=qrai
 have hne:¬pkZ=#[]:=by intro h;have:=qbwp;rw[h] at this;cases this
 cases hl:qa3g p with
 | false=>
  rw[hl] at LG
  replace LG:=Lib.hid LG
  clear hl
  unfold pkV at *
  go_enter Tryz.func5,Tryz.ntmps5
  go_wp2_with fail
  refine(q6if _).mono ?_
  rintro e W ⟨rfl,hb⟩
  have S1:=Lib.hid (S0.out.call hb)
  clear hb
  go_wp2_with (refine wpList_load_row rfl _ _ rfl w.heap.size rfl 35 _ (0,0) _ S1.out.box Tryz.underlying35 rfl (by rw[C1.out];exact q5nr) ?_)
  refine(LG.out _ S1.out).mono ?_
  rintro e W2 ⟨rfl,hb⟩
  have L2:=Lib.hid (qxh2 S1.out.low hb)
  clear hb
  go_wp2_with fail
  go_ret
  exact⟨rfl,L2.out⟩
 | true=>
  rw[hl] at LG
  have sh:=q2qrt hl
  have sp:q21o p:=⟨by omega,by omega,by omega,by omega⟩
  replace LG:=Lib.hid LG
  clear hl sh
  by_cases h2:2000 < s.size
  ·have hd:decide ((2000:Int) < (s.size:Int))=true:=decide_eq_true (by omega)
   clear h2
   unfold pkV at *
   go_enter Tryz.func5,Tryz.ntmps5
   go_wp2_with fail
   refine(q6if _).mono ?_
   rintro e W ⟨rfl,hb⟩
   have S1:=Lib.hid (S0.out.call hb)
   clear hb
   go_wp2_with (refine wpList_load_row rfl _ _ rfl w.heap.size rfl 35 _ (0,0) _ S1.out.box Tryz.underlying35 rfl (by rw[C1.out];exact q5nr) ?_)
   refine(LG.out _ S1.out).mono ?_
   rintro e W2 ⟨rfl,hb⟩
   have L2:=Lib.hid (qxh2 S1.out.low hb)
   clear hb
   go_wp2_with fail
   go_ret
   exact⟨rfl,L2.out⟩
  ·have hd:decide ((2000:Int) < (s.size:Int))=false:=decide_eq_false (by omega)
   have BO:=fun W (h:BxS w p a W)=>q9ca v p a W (hp.below h.low) sp ok ca.pc
   have VA:=fun W (h:BxS w p a W)=>qat7 v p a W (hp.below h.low) sp ok ca.pc
   have HP:=Lib.hid hp
   have SP:=Lib.hid sp
   have HS:=Lib.hid (show s.size≤140737488351232 by omega)
   have HF:=Lib.hid hf
   have HK:=Lib.hid ok.kind
   have hE:q04h v p=(if qryp v p=0 then rawA v p else [],qryp v p):=by
    unfold q04h
    by_cases h:qryp v p=0<;>simp[h]
   have R1:qryp v p=0→q9uf v p.kind (rawA v p)=(p,0)∧(rawA v p).length≤300000010∧q9pu (rawA v p).length p.code p.props.length:=fun h=>⟨qv5p h,qznl h,qazu h⟩
   obtain⟨AA,hAA⟩:∃AA,(if qryp v p=0 then rawA v p else [])=AA:=⟨_,rfl⟩
   rw[hE,hAA] at BO
   generalize rawA v p=X at *
   generalize qryp v p=E at *
   have RA:=Lib.hid hAA
   clear hAA
   replace BO:=Lib.hid BO
   replace VA:=Lib.hid VA
   replace R1:=Lib.hid R1
   have hEE:((E:Int) != (E:Int))=false:=by simp
   clear h2 hp sp hs hE ok ca hf
   unfold pkV at *
   go_enter Tryz.func5,Tryz.ntmps5
   go_wp2_with fail
   refine(q6if _).mono ?_
   rintro e W ⟨rfl,hb⟩
   have S1:=Lib.hid (S0.out.call hb)
   clear hb
   go_wp2_with (refine wpList_load_row rfl _ _ rfl w.heap.size rfl 35 _ (0,0) _ S1.out.box Tryz.underlying35 rfl (by rw[C1.out];exact q5nr) ?_)
   refine(LG.out _ S1.out).mono ?_
   rintro e W2 ⟨rfl,hb⟩
   have S2:=Lib.hid (S1.out.call hb)
   clear hb S1 S0
   go_wp2_with (refine wpList_load_row rfl _ _ rfl w.heap.size rfl 35 _ (0,0) _ S2.out.box Tryz.underlying35 rfl (by rw[C1.out];exact q5nr) ?_)
   refine(BO.out _ S2.out).mono ?_
   rintro e W3 ⟨rfl,hb⟩
   have S3:=Lib.hid (S2.out.call hb)
   clear hb S2
   go_wp2_with (refine wpList_load_row rfl _ _ rfl w.heap.size rfl 35 _ (0,0) _ S3.out.box Tryz.underlying35 rfl (by rw[C1.out];exact q5nr) ?_)
   refine(VA.out _ S3.out).mono ?_
   rintro e W4 ⟨rfl,hb⟩
   have S4:=Lib.hid (S3.out.call hb)
   clear hb S3
   go_upto_if 39 with fail
   go_cut [] (fun wx=>Below w.heap.size w wx)
   case first=>
    by_cases h0:E=0
    ·have ha:=RA.out
     rw[if_pos h0] at ha
     obtain⟨r1,hx,hsz⟩:=R1.out h0
     subst h0
     subst ha
     have RE:=fun W=>qbjs v p.kind (bs X) W HK.out.1 HK.out.2 (by rw[q5zk];omega)
     rw[qkd1,r1] at RE
     have hsx:(bs X).size=X.length:=q5zk X
     rw[←hsx] at hsz
     generalize bs X=Z at *
     have k0:W4.cell? ⟨w.heap.size,0,none⟩=some (.int .i64 p.kind):=S4.out.cell 0
     have K21:∀W,BxS w p a W→W.cell? ⟨w.heap.size,21,none⟩=some (.int .i64 p.code):=fun W h=>h.cell 21
     have K24:∀W,BxS w p a W→W.cell? ⟨w.heap.size,24,none⟩=some (.slice a.ps p.props.length a.pc):=fun W h=>h.cell 24
     have SM:=fun a6 W (h:BxS w p a W) (h6:PkAt W p a6)=>(qbsf p a6 a W h6 (HP.out.below h.low) SP.out.1 SP.out.2.1 SP.out.2.2.1 SP.out.2.2.2).mono fun e W' hh=>(⟨hh.1,h.call hh.2⟩:_∧BxS w p a W')
     unfold pkV at SM
     replace K21:=Lib.hid K21
     replace K24:=Lib.hid K24
     replace SM:=Lib.hid SM
     replace RE:=Lib.hid RE
     have SZ:=Lib.hid hsz
     clear r1 hx hsz hsx RA R1
     go_wp2_with fail
     refine(RE.out _).mono ?_
     rintro e W6 ⟨a6,rfl,at6,_,_,hb,_⟩
     have S6:=S4.out.call hb
     have hbx:Below W6.heap.size W6 ((W6.alloc (.cells pkZ 35)).setRow W6.heap.size (pkC p a6)):=q8xz (qybm _) (Nat.le_refl _) _
     have S7:=Lib.hid (S6.call hbx)
     have AT7:=Lib.hid (at6.below hbx)
     have R7:=Lib.hid (setRow_heap _ _ _ (pkC p a6) _ _ (heap_alloc_new W6 (.cells pkZ 35)))
     have HD1:=Lib.hid (qwmp p a6)
     have HD2:=Lib.hid (qmz0 p a6)
     clear hb at6 S6 hbx S4 k0
     go_upto_region 10 with (refine wpList_store_row rfl _ _ _ rfl W6.heap.size (pkC p a6) rfl rfl 35 _ (heap_alloc_new W6 _) (by rw[HD1.out];exact q5nr) (by rw[HZ.out,HD1.out]) HD2.out ?_)
     generalize (W6.alloc (.cells pkZ 35)).setRow W6.heap.size (pkC p a6)=W7 at *
     generalize W6.heap.size=b1 at *
     go_wp2_with (first
      | (refine q2a5 rfl _ _ rfl b1 rfl 35 _ (0,0) _ R7.out Tryz.underlying35 rfl (by rw[HD1.out];exact q5nr) ?_)
      | (refine q2a5 rfl _ _ rfl w.heap.size rfl 35 _ (0,0) _ S7.out.box Tryz.underlying35 rfl (by rw[C1.out];exact q5nr) ?_))
     refine(SM.out a6 _ S7.out AT7.out).mono ?_
     rintro e W8 ⟨rfl,hb⟩
     have S8:=Lib.hid hb
     have k21:=K21.out W8 hb
     have k24:=K24.out W8 hb
     have L8:=Lib.hid hb.low
     have hsz:=SZ.out
     clear hb S7 AT7 R7 SM K21 K24 SZ S8
     generalize p.code=c at *
     generalize p.props.length=n at *
     rcases hsz with ⟨rfl,rfl,q2,q3⟩ | ⟨e1,e2,rfl,q2,q3⟩ | ⟨hn,q2,q3,rfl | ⟨e1,e2⟩⟩
     all_goals
      go_wp2_with fail
      go_meet
      exact L8.out
    ·have ha:=RA.out
     rw[if_neg h0] at ha
     have g1:((E:Int)==0)=false:=by simp;omega
     have g2:((E:Int) != 0)=true:=by simp;omega
     have g3:((bs AA).toList==[])=true:=by rw[←ha,q0c6];rfl
     have g4:((bs AA).toList != [])=false:=by rw[←ha,q0c6];rfl
     have L4:=Lib.hid S4.out.low
     clear ha h0 S4 R1
     go_wp2_with fail
     go_meet
     exact L4.out
   case rest=>
    obtain⟨R,hR⟩:∃R,q9uf v f s.data.toList=R:=⟨_,rfl⟩
    have RR:=fun W=>qbjs v f s W HF.out.1 HF.out.2 HS.out
    rw[hR] at RR
    have hz:=qhzq (v:=v) (k:=f) (l:=s.data.toList)
    have hb2:=qgvz (v:=v) (k:=f) (l:=s.data.toList)
    rw[hR] at hz hb2
    have HZ2:=Lib.hid hz
    have HB2:=Lib.hid hb2
    replace RR:=Lib.hid RR
    have L5:=Lib.hid hcut
    clear hcut S4 hR hz hb2 R1 RA
    go_wp2_with fail
    refine(RR.out _).mono ?_
    rintro e W6 ⟨a6,rfl,at6,pc6,ft6,hb,hz6⟩
    have hbx:Below W6.heap.size W6 ((W6.alloc (.cells pkZ 35)).setRow W6.heap.size (pkC R.1 a6)):=q8xz (qybm _) (Nat.le_refl _) _
    have L7:=Lib.hid (qxh2 (qxh2 L5.out hb) hbx)
    have AT7:=Lib.hid (at6.below hbx)
    have PC:=Lib.hid pc6
    have FT:=Lib.hid ft6
    have HZ6:=Lib.hid hz6
    have R7:=Lib.hid (setRow_heap _ _ _ (pkC R.1 a6) _ _ (heap_alloc_new W6 (.cells pkZ 35)))
    have HD1:=Lib.hid (qwmp R.1 a6)
    have HD2:=Lib.hid (qmz0 R.1 a6)
    clear hb at6 hbx L5 pc6 ft6 hz6
    go_upto_if 96 with (refine wpList_store_row rfl _ _ _ rfl W6.heap.size (pkC R.1 a6) rfl rfl 35 _ (heap_alloc_new W6 _) (by rw[HD1.out];exact q5nr) (by rw[HZ.out,HD1.out]) HD2.out ?_)
    generalize (W6.alloc (.cells pkZ 35)).setRow W6.heap.size (pkC R.1 a6)=W7 at *
    generalize W6.heap.size=b1 at *
    by_cases h0:R.2=0
    ·obtain⟨hv,hr,hf⟩:=HB2.out h0
     have BQ:=fun W (h:PkAt W R.1 a6)=>q9ca v R.1 a6 W h FT.out.2 FT.out.1 PC.out
     unfold q04h at BQ
     rw[hv,hr,if_neg (by decide)] at BQ
     replace BQ:=Lib.hid BQ
     have g1:((R.2:Int)==0)=true:=by rw[h0];rfl
     have g2:((R.2:Int) != 0)=false:=by rw[h0];rfl
     have HKF:=Lib.hid hf
     clear hv hr hf h0
     go_wp2_with (refine wpList_load_row rfl _ _ rfl b1 rfl 35 _ (0,0) _ R7.out Tryz.underlying35 rfl (by rw[HD1.out];exact q5nr) ?_)
     refine(BQ.out _ AT7.out).mono ?_
     rintro e W8 ⟨rfl,hb⟩
     have L8:=Lib.hid (qxh2 L7.out hb)
     have r8:=(hb.block _ (lt_of_block R7.out)).trans R7.out
     have k0:W8.cell? ⟨b1,0,none⟩=some (.int .i64 f):=(cell_of_row _ _ 0 _ _ _ r8).trans (by rw[←HKF.out];rfl)
     have hss:((bs s.data.toList).toList==s.toList)=true:=by rw[qq4y];simp
     clear hb R7 r8
     go_wp2_with fail
     go_ret
     exact⟨rfl,L8.out⟩
    ·have g1:((R.2:Int)==0)=false:=by simp;omega
     have g2:((R.2:Int) != 0)=true:=by simp;omega
     have hk:pkC R.1 a6=pkZ:=by rw[HZ2.out h0,HZ6.out h0];rfl
     rw[hk] at R7 HD1
     clear h0 hk
     go_wp2_with (refine wpList_load_row rfl _ _ rfl b1 rfl 35 pkZ (0,0) _ R7.out Tryz.underlying35 rfl (by rw[HZ.out];exact q5nr) ?_)
     refine(qy61 _).mono ?_
     rintro e W8 ⟨rfl,hb⟩
     have L8:=Lib.hid (qxh2 L7.out hb)
     clear hb
     go_wp2_with fail
     go_ret
     exact⟨rfl,L8.out⟩
end Go.Proofs.YthhdhagenmcbeaaGreat
