/- The contract of polyglotkit.LightPacket: whether a packet is gone through. Condition: its strings are no longer than memory allows. -/
import Derived.Deep.LoopGhost
import Derived.Great.BuildSlice
import Derived.Test.YtbklidpadffpgaaGreatK07
import Derived.Test.YtbklidpadffpgaaGreatK20
import Derived.Test.YtbklidpadffpgaaGreatK22
import Derived.Test.YtbklidpadffpgaaGreatK19
set_option maxHeartbeats 2000000
set_option maxRecDepth 100000
namespace Go.Proofs.YtbklidpadffpgaaGreat
open Go.RowKit
def qnlp(l:List Fi):Nat:=(l.map fun f=>f.topic.length).sum
theorem q8f1(l:List Fi)(f:Fi):qnlp (l++[f])=qnlp l+f.topic.length:=by simp[qnlp]
def q3em(p:Pk):Nat:=p.topic.length+p.payload.length+p.client.length+p.user.length+p.pass.length+p.wTopic.length+p.wPayload.length
def qa3g(p:Pk):Bool:=q2y5 p.props&&q2y5 p.wProps&&decide (p.codes.length≤60)&&decide (p.filters.length≤60)&&decide (q3em p+qnlp p.filters≤140000)
theorem q2qrt{p:Pk}(h:qa3g p=true):p.codes.length≤60∧p.filters.length≤60∧p.props.length≤1010∧p.wProps.length≤1010:=by
 unfold qa3g q2y5 at h
 simp only[Bool.and_eq_true,decide_eq_true_eq] at h
 omega
theorem q1dl(p:Pk)(a:Ad)(w:World)(hp:PkAt w p a)(ok:PkOk p) :
 Calls Tryz.prog 13 #[pkV p a] w fun e w'=>e = .returned (.bool (qa3g p))∧Below w.heap.size w w':=by
 have HP:=Lib.hid hp
 have OK:=Lib.hid ok
 have hbx:Below w.heap.size w (w.alloc (.cells (pkC p a) 35)):=qybm _
 have L1:=fun m=>q3f7 a.ps _ a.pc p.props ((w.alloc (.cells (pkC p a) 35)).drewN m) (HP.out.ps.below (qnpu hbx m)) rfl (fun x hx=>(OK.out.pps x hx).2)
 have L2:=fun m=>q3f7 a.w _ a.wc p.wProps ((w.alloc (.cells (pkC p a) 35)).drewN m) (HP.out.w.below (qnpu hbx m)) rfl (fun x hx=>(OK.out.wps x hx).2)
 have HB:=Lib.hid (fun m=>qnpu hbx m)
 have HF:=Lib.hid (fun m=>HP.out.fs.below (qnpu hbx m))
 clear hbx hp ok
 unfold pkV
 have c5:(pkC p a)[5]? = some (.string (bs p.topic)):=rfl
 have c6:(pkC p a)[6]? = some (.string (bs p.payload)):=rfl
 have c9:(pkC p a)[9]? = some (.string (bs p.client)):=rfl
 have c11:(pkC p a)[11]? = some (.string (bs p.user)):=rfl
 have c13:(pkC p a)[13]? = some (.string (bs p.pass)):=rfl
 have c15:(pkC p a)[15]? = some (.string (bs p.wTopic)):=rfl
 have c16:(pkC p a)[16]? = some (.string (bs p.wPayload)):=rfl
 have c19:(pkC p a)[19]? = some (.slice a.w p.wProps.length a.wc):=rfl
 have c22:(pkC p a)[22]? = some (.slice a.cs p.codes.length a.cc):=rfl
 have c23:(pkC p a)[23]? = some (.slice a.fs p.filters.length a.fc):=rfl
 have c24:(pkC p a)[24]? = some (.slice a.ps p.props.length a.pc):=rfl
 generalize pkC p a=C at *
 have L1:=Lib.hid L1
 have L2:=Lib.hid L2
 obtain⟨R,hR⟩:∃R,qa3g p=R:=⟨_,rfl⟩
 rw[hR]
 unfold qa3g at hR
 have HR:=Lib.hid hR
 clear hR
 cases hl1:q2y5 p.props
 ·have hr:R=false:=by rw[←HR.out,hl1];rfl
  rw[hl1] at L1
  subst hr
  clear hl1
  go_enter Tryz.func13,Tryz.ntmps13
  go_wp2_with fail
  refine(L1.out 0).mono ?_
  rintro e w1 ⟨rfl,m,rfl⟩
  go_wp2_with fail
  go_ret
  exact⟨rfl,HB.out _⟩
 rw[hl1] at L1
 cases hl2:q2y5 p.wProps
 ·have hr:R=false:=by rw[←HR.out,hl1,hl2];rfl
  rw[hl2] at L2
  subst hr
  clear hl1 hl2
  go_enter Tryz.func13,Tryz.ntmps13
  go_wp2_with fail
  refine(L1.out 0).mono ?_
  rintro e w1 ⟨rfl,m,rfl⟩
  go_wp2_with fail
  refine(L2.out _).mono ?_
  rintro e w1 ⟨rfl,m',rfl⟩
  go_wp2_with fail
  go_ret
  exact⟨rfl,by have:=HB.out (m+m');exact this⟩
 rw[hl2] at L2
 by_cases h3:p.codes.length≤60
 ·by_cases h4:p.filters.length≤60
  ·have hr:decide (q3em p+qnlp p.filters≤140000)=R:=by rw[←HR.out,hl1,hl2,decide_eq_true h3,decide_eq_true h4];rfl
   have HR2:=Lib.hid hr
   have g3:¬60 < (p.codes.length:Int):=by omega
   have g4:¬60 < (p.filters.length:Int):=by omega
   have z0:=qkrc p.topic
   have y0:=OK.out.texts p.topic (by simp[Pk.texts])
   obtain⟨t0,ht0⟩:∃t:Int,((bs p.topic).size:Int)=t:=⟨_,rfl⟩
   have z1:=qkrc p.payload
   have y1:=OK.out.texts p.payload (by simp[Pk.texts])
   obtain⟨t1,ht1⟩:∃t:Int,((bs p.payload).size:Int)=t:=⟨_,rfl⟩
   have z2:=qkrc p.client
   have y2:=OK.out.texts p.client (by simp[Pk.texts])
   obtain⟨t2,ht2⟩:∃t:Int,((bs p.client).size:Int)=t:=⟨_,rfl⟩
   have z3:=qkrc p.user
   have y3:=OK.out.texts p.user (by simp[Pk.texts])
   obtain⟨t3,ht3⟩:∃t:Int,((bs p.user).size:Int)=t:=⟨_,rfl⟩
   have z4:=qkrc p.pass
   have y4:=OK.out.texts p.pass (by simp[Pk.texts])
   obtain⟨t4,ht4⟩:∃t:Int,((bs p.pass).size:Int)=t:=⟨_,rfl⟩
   have z5:=qkrc p.wTopic
   have y5:=OK.out.texts p.wTopic (by simp[Pk.texts])
   obtain⟨t5,ht5⟩:∃t:Int,((bs p.wTopic).size:Int)=t:=⟨_,rfl⟩
   have z6:=qkrc p.wPayload
   have y6:=OK.out.texts p.wPayload (by simp[Pk.texts])
   obtain⟨t6,ht6⟩:∃t:Int,((bs p.wPayload).size:Int)=t:=⟨_,rfl⟩
   obtain⟨s1,hs1⟩:∃s,t0+t1=s:=⟨_,rfl⟩
   have e0:IntKind.i64.wrap (t0+t1)=s1:=by simp only[IntKind.wrap_i64];omega
   obtain⟨s2,hs2⟩:∃s,s1+t2=s:=⟨_,rfl⟩
   have e1:IntKind.i64.wrap (s1+t2)=s2:=by simp only[IntKind.wrap_i64];omega
   obtain⟨s3,hs3⟩:∃s,s2+t3=s:=⟨_,rfl⟩
   have e2:IntKind.i64.wrap (s2+t3)=s3:=by simp only[IntKind.wrap_i64];omega
   obtain⟨s4,hs4⟩:∃s,s3+t4=s:=⟨_,rfl⟩
   have e3:IntKind.i64.wrap (s3+t4)=s4:=by simp only[IntKind.wrap_i64];omega
   obtain⟨s5,hs5⟩:∃s,s4+t5=s:=⟨_,rfl⟩
   have e4:IntKind.i64.wrap (s4+t5)=s5:=by simp only[IntKind.wrap_i64];omega
   obtain⟨s6,hs6⟩:∃s,s5+t6=s:=⟨_,rfl⟩
   have e5:IntKind.i64.wrap (s5+t6)=s6:=by simp only[IntKind.wrap_i64];omega
   have hT:s6=(q3em p:Nat):=by unfold q3em;omega
   have hTle:q3em p≤985162418458624:=by unfold q3em;omega
   clear z0 y0 z1 y1 z2 y2 z3 y3 z4 y4 z5 y5 z6 y6
   generalize bs p.topic=u0 at *
   generalize bs p.payload=u1 at *
   generalize bs p.client=u2 at *
   generalize bs p.user=u3 at *
   generalize bs p.pass=u4 at *
   generalize bs p.wTopic=u5 at *
   generalize bs p.wPayload=u6 at *
   rw[hT] at e5
   clear hs1 hs2 hs3 hs4 hs5 hs6 hT
   generalize q3em p=T0 at *
   obtain⟨n,hn⟩:∃n,p.filters.length=n:=⟨_,rfl⟩
   have HN:=Lib.hid hn
   rw[hn] at c23 g4 h4
   have q0:(n:Int)≤60:=by omega
   have HT:=Lib.hid hTle
   clear hr hn hl1 hl2 h3 h4 hTle
   go_enter Tryz.func13,Tryz.ntmps13
   go_wp2_with fail
   refine(L1.out 0).mono ?_
   rintro e w1 ⟨rfl,m,rfl⟩
   go_wp2_with fail
   refine(L2.out _).mono ?_
   rintro e w1 ⟨rfl,m',hw1⟩
   have c23':w1.cell? ⟨w.heap.size,23,none⟩=some (.slice a.fs n a.fc):=by rw[hw1];exact(World.cell?_alloc_at _ _ _ _ rfl).trans c23
   have c22':w1.cell? ⟨w.heap.size,22,none⟩=some (.slice a.cs p.codes.length a.cc):=by rw[hw1];exact(World.cell?_alloc_at _ _ _ _ rfl).trans c22
   have c5':w1.cell? ⟨w.heap.size,5,none⟩=some (.string u0):=by rw[hw1];exact(World.cell?_alloc_at _ _ _ _ rfl).trans c5
   have c6':w1.cell? ⟨w.heap.size,6,none⟩=some (.string u1):=by rw[hw1];exact(World.cell?_alloc_at _ _ _ _ rfl).trans c6
   have c9':w1.cell? ⟨w.heap.size,9,none⟩=some (.string u2):=by rw[hw1];exact(World.cell?_alloc_at _ _ _ _ rfl).trans c9
   have c11':w1.cell? ⟨w.heap.size,11,none⟩=some (.string u3):=by rw[hw1];exact(World.cell?_alloc_at _ _ _ _ rfl).trans c11
   have c13':w1.cell? ⟨w.heap.size,13,none⟩=some (.string u4):=by rw[hw1];exact(World.cell?_alloc_at _ _ _ _ rfl).trans c13
   have c15':w1.cell? ⟨w.heap.size,15,none⟩=some (.string u5):=by rw[hw1];exact(World.cell?_alloc_at _ _ _ _ rfl).trans c15
   have c16':w1.cell? ⟨w.heap.size,16,none⟩=some (.string u6):=by rw[hw1];exact(World.cell?_alloc_at _ _ _ _ rfl).trans c16
   have HB1:=Lib.hid (show Below w.heap.size w w1 by rw[hw1];exact qnpu (HB.out m) m')
   have HF1:=Lib.hid (show CL w1 a.fs (fcs p.filters) by rw[hw1];exact(HF.out m).below (qnpu (Below.refl _ _) m'))
   clear hw1 c19 c22 c23 c24 c5 c6 c9 c11 c13 c15 c16
   go_wp2_with fail
   clear c5' c6' c9' c11' c13' c15' c16' c22'
   clear e0 e1 e2 e3 e4 e5 ht0 ht1 ht2 ht3 ht4 ht5 ht6
   go_loopg [4,3] n (fun gk i s wr=>∃k t:Nat,k≤n∧gk=n - k∧i = .int .i64 (k:Int)∧s = .int .i64 (t:Int)∧t=T0+qnlp (p.filters.take k)∧t≤985162418458624+k*140737488351232∧w1=wr)
   case atStart=>exact⟨0,T0,Nat.zero_le _,rfl,rfl,rfl,rfl,by have:=HT.out;omega,rfl⟩
   case round=>
    obtain⟨k,t,hk,rfl,rfl,rfl,ht,ht2,rfl⟩:=hrel
    by_cases hlt:k < n
    ·obtain⟨f,hf⟩:∃f,p.filters[k]? = some f:=⟨_,List.getElem?_eq_getElem (by rw[HN.out];exact hlt)⟩
     obtain⟨g',i',e',_,a0,_,_,_,_⟩:=HF1.out.fi hf
     have hz:=qkrc f.topic
     have hfl:=OK.out.fis f (List.mem_of_getElem? hf)
     obtain⟨x,hx⟩:∃x:Int,((bs f.topic).size:Int)=x:=⟨_,rfl⟩
     have hwr:IntKind.i64.wrap ((t:Int)+x)=((t+f.topic.length:Nat):Int):=by simp only[IntKind.wrap_i64];omega
     have htk:T0+qnlp (p.filters.take (k+1))=t+f.topic.length:=by rw[List.take_add_one,hf,ht];simp only[Option.toList_some];rw[q8f1];omega
     have HK:=Lib.hid htk
     have hb2:t+f.topic.length≤985162418458624+(k+1)*140737488351232:=by omega
     have HB2:=Lib.hid hb2
     have HL:=Lib.hid hlt
     have g1:(k:Int) < (n:Int):=by omega
     have g1n:k < n:=hlt
     rw[e'] at c23'
     generalize bs f.topic=u at *
     clear hz hfl htk hb2 ht ht2 hf hlt hk
     obtain⟨t2,ht2⟩:∃t2,t+f.topic.length=t2:=⟨_,rfl⟩
     rw[ht2] at hwr HK HB2
     clear ht2
     go_wp2_with fail
     go_roundg (n - (k+1))
     case measure=>have:=HL.out;omega
     case rel=>exact⟨k+1,t2,by have:=HL.out;omega,rfl,by go_num,rfl,HK.out.symm,HB2.out,rfl⟩
    ·obtain rfl:k=n:=by omega
     have hfin:decide ((t:Int)≤140000)=R:=by
      rw[←HR2.out,ht,show p.filters.take k=p.filters from List.take_of_length_le (by rw[HN.out];omega),decide_eq_decide];omega
     have HFIN:=Lib.hid hfin
     clear hfin ht ht2 hk hlt
     go_wp2_with fail
     go_ret
     exact⟨congrArg (fun b=>Ending.returned (Value.bool b)) HFIN.out,HB1.out⟩
  ·have hr:R=false:=by rw[←HR.out,hl1,hl2,decide_eq_true h3,decide_eq_false h4];rfl
   have g3:¬60 < (p.codes.length:Int):=by omega
   have g4:60 < (p.filters.length:Int):=by omega
   subst hr
   clear hl1 hl2 h3 h4
   go_enter Tryz.func13,Tryz.ntmps13
   go_wp2_with fail
   refine(L1.out 0).mono ?_
   rintro e w1 ⟨rfl,m,rfl⟩
   go_wp2_with fail
   refine(L2.out _).mono ?_
   rintro e w1 ⟨rfl,m',rfl⟩
   go_wp2_with fail
   go_ret
   exact⟨rfl,by have:=HB.out (m+m');exact this⟩
 ·have hr:R=false:=by rw[←HR.out,hl1,hl2,decide_eq_false h3];rfl
  have g3:60 < (p.codes.length:Int):=by omega
  subst hr
  clear hl1 hl2 h3
  go_enter Tryz.func13,Tryz.ntmps13
  go_wp2_with fail
  refine(L1.out 0).mono ?_
  rintro e w1 ⟨rfl,m,rfl⟩
  go_wp2_with fail
  refine(L2.out _).mono ?_
  rintro e w1 ⟨rfl,m',rfl⟩
  go_wp2_with fail
  go_ret
  exact⟨rfl,by have:=HB.out (m+m');exact this⟩
theorem qy61(w:World):Calls Tryz.prog 19 #[.agg pkZ] w fun e w'=>e = .returned (.bool true)∧Below w.heap.size w w':=by
 have B0:=Lib.hid (qybm (w:=w) (.cells pkZ 35))
 have SM:=fun W=>qbsf Pk.zero adZ adZ W (qa3p W) (qa3p W) (by decide) (by decide) (by decide) (by decide)
 unfold pkV at SM
 rw[qgcz] at SM
 have SM:=Lib.hid SM
 have HZ:=Lib.hid qbwp
 have hzv:=qrai
 have hne:¬pkZ=#[]:=by intro h;have:=qbwp;rw[h] at this;cases this
 go_enter Tryz.func19,Tryz.ntmps19
 go_wp2_with (first
  | (refine wpList_load_row rfl _ _ rfl w.heap.size rfl 35 pkZ (0,0) _ (heap_alloc_new w _) Tryz.underlying35 rfl (by rw[HZ.out];exact q5nr) ?_)
  | (refine wpList_buildTo rfl 35 _ rfl (some 4) rfl pkZ (by kernel_rfl) ?_))
 refine(SM.out _).mono ?_
 rintro e W ⟨rfl,hb⟩
 have LO:=Lib.hid (qxh2 B0.out hb)
 clear hb
 go_wp2_with fail
 go_ret
 exact⟨rfl,LO.out⟩
end Go.Proofs.YtbklidpadffpgaaGreat
