/- The contract of polyglotref10.Read. Condition: at most 2,000 bytes. -/
import Derived.Deep.DeepCutAuto
import Derived.Test.YthhdhagenmcbeaaGreatK51
import Derived.Test.YthhdhagenmcbeaaGreatK23
import Derived.Test.YthhdhagenmcbeaaGreatK45
import Derived.Test.YthhdhagenmcbeaaGreatK20
import Derived.Test.YthhdhagenmcbeaaGreatK16
import Derived.Test.YthhdhagenmcbeaaGreatK40
import Derived.Test.YthhdhagenmcbeaaGreatK18
import Derived.Test.YthhdhagenmcbeaaGreatK50
import Derived.Test.YthhdhagenmcbeaaGreatK19
set_option maxRecDepth 100000
set_option maxHeartbeats 4000000
namespace Go.Proofs.YthhdhagenmcbeaaGreat
open Go.RowKit
def FewA(L:List Pr):Prop:=L.length≤1010∧∀p∈L,p.text.length≤200000
def qzbf(v:Int)(P:Pk)(y:Cs)(R:Pk×Nat):Prop:=(if (qveh y (qryp v P)).e≠0 then(Pk.zero,(qveh y (qryp v P)).e) else(P,0))=R
def q9vk(n:Nat):Prop:=(n:Int) < 65536
theorem qluz(v kind:Int)(y:Cs):FewA (y.rest v kind).1.2:=by
 have hn:FewA []:=⟨Nat.zero_le _,fun p hp=>(nomatch hp)⟩
 unfold Cs.rest
 split
 ·exact hn
 ·simp only
  split
  ·exact hn
  ·unfold Cs.props
   split
   ·exact hn
   ·exact⟨(q7ml kind _).1,(q7ml kind _).2.1⟩
def qd31(w:World)(R:Pk×Nat)(e:Ending)(W:World):Prop:=
 ∃a:Ad,e = .returned (.tuple #[.agg (pkC R.1 a),.int .i64 (R.2:Nat)])∧PkAt W R.1 a∧Below w.heap.size w W
structure ReA(w:World)(cb:Nat)(s:ByteArray)(B:Nat)(P:Pk)(a:Ad)(y:Cs)(D:Array Value)(u:Bool×Bool)(W:World):Prop where
 low:Below w.heap.size w W
 rs:W.heap[w.heap.size]? = some (.cells (if u.2=true then D else pkZ) 35 (0,0))
 pk:W.heap[B]? = some (.cells (pkC P a) 35 (0,0))
 cs:u.1=false→RsAt W cb s y
 ps:PL W a.ps P.props
 c1:w.heap.size < cb
 c2:cb < B
 pf:∀g i,a.ps=some ⟨g,i,none⟩→B < g
section
variable{w W W':World}{cb:Nat}{s:ByteArray}{B:Nat}{P P':Pk}{a a':Ad}{y y':Cs}{D:Array Value}{u:Bool×Bool}
theorem ReA.below(h:ReA w cb s B P a y D u W)(hb:Below W.heap.size W W'):ReA w cb s B P a y D u W':=
 ⟨qxh2 h.low hb,(hb.block _ (lt_of_block h.rs)).trans h.rs,(hb.block _ (lt_of_block h.pk)).trans h.pk,fun e=>(h.cs e).below hb,h.ps.below hb,h.c1,h.c2,h.pf⟩
theorem ReA.call{b:Bool}(h:ReA w cb s B P a y D u W)(hg:W.grownBy W' (some cb))(hc:b=false→RsAt W' cb s y'):ReA w cb s B P a y' D (b,u.2) W':=
 ⟨h.low.grown hg h.low.size (fun k e=>by have:=Option.some.inj e;have:=h.c1;omega),(hg.block _ (lt_of_block h.rs) (fun e=>by have:=Option.some.inj e;have:=h.c1;omega)).trans h.rs,(hg.block _ (lt_of_block h.pk) (fun e=>by have:=Option.some.inj e;have:=h.c2;omega)).trans h.pk,
  hc,h.ps.grown hg (fun g i e=>by have:=h.pf g i e;have:=h.c2;omega),h.c1,h.c2,h.pf⟩
theorem ReA.put(h:ReA w cb s B P a y D u W)(j:Nat)(v:Value)(he:(pkC P a).setIfInBounds j v=pkC P' a')(ps:PL W a'.ps P'.props)(pf:∀g i,a'.ps=some ⟨g,i,none⟩→B < g):ReA w cb s B P' a' y D u (W.setCell ⟨B,j,none⟩ v):=by
 have o:∀k,k≠B→(W.setCell ⟨B,j,none⟩ v).heap[k]? = W.heap[k]? := fun k hk=>heap_setCell_other W ⟨B,j,none⟩ k v hk
 have c1:=h.c1
 have c2:=h.c2
 exact⟨qo4g h.low (by omega),(o _ (by omega)).trans h.rs,qv6p h.pk he,fun e=>(h.cs e).of_block (o _ (by omega)),ps.kept (q99v W B j v).size (fun g i e _=>o g (by have:=pf g i e;omega)),c1,c2,pf⟩
theorem ReA.store(h:ReA w cb s B P a y D (true,false) W):ReA w cb s B P a y D (true,true) (W.setRow w.heap.size D):=by
 have c1:=h.c1
 have c2:=h.c2
 exact⟨q8xz h.low (Nat.le_refl _) _,setRow_heap _ _ _ D _ _ h.rs,(setRow_other _ _ _ _ (by omega)).trans h.pk,fun e=>(by cases e),h.ps.kept (by simp[World.setRow]) (fun g i e _=>setRow_other _ _ _ _ (by have:=h.pf g i e;omega)),c1,c2,h.pf⟩
theorem ReA.cell(h:ReA w cb s B P a y D u W)(j:Nat):W.cell? ⟨B,j,none⟩=(pkC P a)[j]? := cell_of_row _ _ j _ _ _ h.pk
theorem ReA.fr(h:ReA w cb s B P a y D u W)(j:Nat):W.frozen? ⟨B,j,none⟩=false:=frozen_of_row _ _ _ _ _ h.pk
end
theorem qaqn(v kind:Int)(s:ByteArray)(w:World)(hk0:-9223372036854775808≤kind)(hk1:kind≤9223372036854775807)(hm:s.size≤2000) :
 Calls Tryz.prog 15 #[.int .i64 v,.int .i64 kind,.string s] w (qd31 w (q9uf v kind s.data.toList)):=by
 have hm9:s.size≤9223372036854775807:=by omega
 have HZ:=Lib.hid qbwp
 have hzv:=qrai
 have hne:¬pkZ=#[]:=by intro h;have:=qbwp;rw[h] at this;cases this
 have PZ:Hid (pkZ.all (·.oneCell')=true):=Lib.hid (qmz0 Pk.zero adZ)
 have R0:=Lib.hid (heap_alloc_new w (.cells pkZ 35))
 have L0:=Lib.hid (qybm (w:=w) (.cells pkZ 35))
 have ZW:=Lib.hid (show(w.alloc (.cells pkZ 35)).heap.size=w.heap.size+1 by simp)
 have VE:=fun W=>qyet v W
 obtain⟨R,hR⟩:∃R,q9uf v kind s.data.toList=R:=⟨_,rfl⟩
 rw[hR]
 obtain⟨b1,hb1⟩:∃b,(versC v&&qvya kind)=b:=⟨_,rfl⟩
 have HB1:=Lib.hid hb1
 have HR:=Lib.hid hR
 have HM:=Lib.hid hm
 have HK:=Lib.hid (And.intro hk0 hk1)
 clear hR hb1 hm9 hm hk0 hk1
 go_enter Tryz.func15,Tryz.ntmps15
 go_upto_region 1 with fail
 generalize w.alloc (.cells pkZ 35)=W0 at *
 go_cut [20] (fun s20 wx=>s20 = .bool (!b1)∧wx=W0)
 case first=>
  have hb:=HB1.out
  unfold qvya at hb
  clear HK HM HR HB1
  generalize kind=k at *
  cases hv:versC v with
  | false=>
   rw[hv,Bool.false_and] at hb
   rw[hv] at VE
   subst hb
   replace VE:=Lib.hid VE
   clear hv
   go_wp2_with fail
   refine(VE.out _).mono ?_
   rintro e W ⟨rfl,rfl⟩
   go_wp2_with fail
   go_meet
   exact⟨rfl,rfl⟩
  | true=>
   rw[hv,Bool.true_and] at hb
   rw[hv] at VE
   replace VE:=Lib.hid VE
   clear hv
   by_cases h4:4≤k
   ·have g1:decide (k < 4)=false:=decide_eq_false (by omega)
    rw[decide_eq_true h4,Bool.true_and] at hb
    have HT:=Lib.hid (show decide (7 < k)=!b1 by
     rw[←hb,←decide_not,decide_eq_decide]
     omega)
    clear hb h4
    go_wp2_with fail
    refine(VE.out _).mono ?_
    rintro e W ⟨rfl,rfl⟩
    go_wp2_with fail
    go_meet
    exact⟨congrArg Value.bool HT.out,rfl⟩
   ·have g1:decide (k < 4)=true:=decide_eq_true (by omega)
    rw[decide_eq_false h4,Bool.false_and] at hb
    subst hb
    clear h4
    go_wp2_with fail
    refine(VE.out _).mono ?_
    rintro e W ⟨rfl,rfl⟩
    go_wp2_with fail
    go_meet
    exact⟨rfl,rfl⟩
 case rest=>
  obtain⟨rfl,rfl⟩:=hcut
  cases b1 with
  | false=>
   have hr:R=(Pk.zero,2):=by
    rw[←HR.out,q9uf,if_pos HB1.out]
   have RT:=Lib.hid (show qd31 w R (.returned (.tuple #[.agg pkZ,.int .i64 2])) (wc.setRow w.heap.size pkZ) by
    rw[hr];exact⟨adZ,rfl,qa3p _,q8xz L0.out (Nat.le_refl _) _⟩)
   clear hr HR HB1 VE
   go_wp2_with (first
    | (refine wpList_buildTo rfl 35 _ rfl (some _) rfl pkZ (by kernel_rfl) ?_)
    | (refine wpList_store_row rfl _ _ _ rfl w.heap.size pkZ rfl rfl 35 _ R0.out (by rw[HZ.out];exact q5nr) rfl PZ.out ?_))
   exact q8iy (cs:=pkZ) rfl rfl rfl rfl Tryz.underlying35 rfl (by rw[HZ.out];exact q5nr) (setRow_heap _ _ _ _ _ _ R0.out) RT.out
  | true=>
   have hv45:v=4∨v=5:=by
    have:=HB1.out
    simp only[Bool.and_eq_true,versC,Bool.or_eq_true,beq_iff_eq] at this
    exact this.1
   have hx:=HR.out
   rw[q9uf,if_neg (by rw[HB1.out];decide)] at hx
   have hz:=q6xm (Cs.mk s.data.toList 0)
   obtain⟨z,hzz⟩:∃z,(Cs.mk s.data.toList 0).num 2=z:=⟨_,rfl⟩
   have NM:=fun cb W (h:RsAt W cb s ⟨s.data.toList,0⟩)=>qyb5 2 (by decide) (show s.size≤9223372036854775807 by have:=HM.out;omega) h
   have hpa:qngm v kind ⟨s.data.toList,0⟩=(pkB kind z.1 (z.2.rest v kind).1.1 (z.2.rest v kind).1.2,(z.2.rest v kind).2):=by rw[←hzz];rfl
   rw[hpa] at hx
   rw[hzz] at NM hz
   obtain⟨z1,z2⟩:=z
   simp only at NM hz hx
   have NM:=fun cb W (h:RsAt W cb s ⟨s.data.toList,0⟩)=>(NM cb W h).mono fun e W' hh=>(⟨hh,show(z1:Int) < 65536 by omega⟩:_∧q9vk z1)
   have RE:=fun cb W (h:RsAt W cb s z2)=>qtma v kind hv45 HK.out.1 HK.out.2 HM.out h
   have RF:=qluz v kind z2
   obtain⟨r,hrr⟩:∃r,z2.rest v kind=r:=⟨_,rfl⟩
   rw[hrr] at RE hx RF
   obtain⟨⟨c,L⟩,y⟩:=r
   simp only at RE hx RF
   obtain⟨D0,hD0⟩:∃D,pkC (pkB kind z1 0 []) adZ=D:=⟨_,rfl⟩
   have HD0:=Lib.hid hD0
   have HD1:=Lib.hid (show D0.size=25 by rw[←hD0];exact qwmp _ _)
   have HD2:=Lib.hid (show D0.all (·.oneCell')=true by rw[←hD0];exact qmz0 _ _)
   have HX:qzbf v (pkB kind z1 c L) y R:=hx
   have HRF:=Lib.hid RF
   replace NM:=Lib.hid NM
   replace RE:=Lib.hid RE
   clear hx hz hzz hpa hrr hD0 RF HR HB1 VE hv45
   go_wp2_with fail
   refine(qvbz s _).mono ?_
   rintro e W1 ⟨rfl,hc,hb1⟩
   have C1:=Lib.hid (show RsAt W1 wc.heap.size s ⟨s.data.toList,0⟩ from⟨0,Nat.zero_le _,hc,by simp⟩)
   have L1:=Lib.hid (qxh2 L0.out hb1)
   have R1:=Lib.hid ((hb1.block _ (lt_of_block R0.out)).trans R0.out)
   clear hc hb1
   go_wp2_with fail
   refine(NM.out _ _ C1.out).mono ?_
   rintro e W2 ⟨⟨rfl,hc,hg⟩,hz1⟩
   have hz1:(z1:Int) < 65536:=hz1
   have c1:w.heap.size < wc.heap.size:=by rw[ZW.out];omega
   have hlt:=hc.lt
   have hbx:Below W2.heap.size W2 ((W2.alloc (.cells pkZ 35)).setRow W2.heap.size D0):=q8xz (qybm (w:=W2) (.cells pkZ 35)) (Nat.le_refl _) D0
   have S3:ReA w wc.heap.size s W2.heap.size (pkB kind z1 0 []) adZ z2 pkZ (false,false) ((W2.alloc (.cells pkZ 35)).setRow W2.heap.size D0):=
    ⟨qxh2 (L1.out.grown hg L1.out.size (fun k e=>by have:=Option.some.inj e;omega)) hbx,(hbx.block _ (by have:=hg.size;have:=lt_of_block R1.out;omega)).trans ((hg.block _ (lt_of_block R1.out) (fun e=>by have:=Option.some.inj e;omega)).trans R1.out),
     by rw[HD0.out];exact setRow_heap _ _ _ D0 _ _ (heap_alloc_new W2 _),fun _=>hc.below hbx,PL.nil,c1,hlt,fun g i e=>by cases e⟩
   have S3:=Lib.hid S3
   clear hc hg c1 hlt hbx C1 L1 R1
   go_wp2_with (first
    | (refine wpList_buildTo rfl 35 _ rfl (some _) rfl D0 (by rw[←HD0.out];kernel_rfl) ?_)
    | (refine wpList_store_row rfl _ _ _ rfl W2.heap.size D0 rfl rfl 35 _ (heap_alloc_new W2 _) (by rw[HD1.out];exact q5nr) (by rw[HZ.out,HD1.out]) HD2.out ?_))
   generalize W2.heap.size=B at *
   generalize (W2.alloc (.cells pkZ 35)).setRow _ D0=W3 at *
   refine(RE.out _ _ (S3.out.cs rfl)).mono ?_
   rintro e W4 ⟨⟨A,cp,rfl,hl⟩,hS⟩
   have hB:=lt_of_block S3.out.pk
   have S4:=S3.out.call (b:=false) hS.g (fun _=>hS.cs)
   have S5:=S4.put 21 (.int .i64 (c:Int)) (P':=pkB kind z1 c []) (a':=adZ) rfl PL.nil (fun g i e=>by cases e)
   have hpl:PL (W4.setCell ⟨B,21,none⟩ (.int .i64 (c:Int))) A L:=hl.pl.kept (q99v W4 B 21 _).size (fun g i e _=>heap_setCell_other W4 ⟨B,21,none⟩ g _ (by show g≠B;have:=hl.far g i e;omega))
   have S6:=Lib.hid (S5.put 24 (.slice A L.length cp) (P':=pkB kind z1 c L) (a':={adZ with ps:=A,pc:=cp}) rfl hpl (fun g i e=>by have:=hl.far g i e;omega))
   have n21:W4.cell? ⟨B,21,none⟩=some (.int .i64 0):=S4.cell 21
   have f21:=S4.fr 21
   have n24:(W4.setCell ⟨B,21,none⟩ (.int .i64 (c:Int))).cell? ⟨B,24,none⟩=some (.slice none 0 0):=S5.cell 24
   have f24:=S5.fr 24
   have CP:=Lib.hid (And.intro hl.cap hl.capm)
   clear hB S4 S5 hpl hl hS S3 RE NM
   go_upto_region 6 with fail
   clear n21 f21 n24 f24
   generalize (W4.setCell ⟨B,21,none⟩ (.int .i64 (c:Int))).setCell ⟨B,24,none⟩ (.slice A L.length cp)=W6 at *
   obtain⟨P,hP⟩:∃P,pkB kind z1 c L=P:=⟨_,rfl⟩
   obtain⟨a,ha⟩:∃a:Ad,({adZ with ps:=A,pc:=cp}:Ad)=a:=⟨_,rfl⟩
   have FP:RkP P a∧q21o P∧∀W,PL W a.ps P.props→PkAt W P a:=by
    subst hP ha
    exact⟨⟨HRF.out.1,CP.out.1,CP.out.2,HRF.out.2⟩,⟨Nat.zero_le _,Nat.zero_le _,Nat.le_trans HRF.out.1 (by decide),Nat.zero_le _⟩,fun W h=>⟨fun e=>absurd rfl e,fun e=>absurd rfl e,fun e=>absurd rfl e,h⟩⟩
   have hx:=HX
   unfold qzbf at hx
   have S7:=S6.out
   rw[hP,ha] at S7
   rw[hP] at hx
   have VA:=fun W (h:PkAt W P a)=>qhl1 v P a W h FP.2.1 FP.1
   obtain⟨f,hf⟩:∃f,qryp v P=f:=⟨_,rfl⟩
   rw[hf] at VA hx
   have DN:=fun W (h:RsAt W wc.heap.size s y)=>qeyg (p:=P) (a:=a) f (show s.size≤9223372036854775807 by have:=HM.out;omega) h
   obtain⟨d,hd⟩:∃d,qveh y f=d:=⟨_,rfl⟩
   rw[hd] at hx DN
   have hE1:=qwmp P a
   have hE2:=qmz0 P a
   have hDD1:(if d.e≠0 then pkZ else pkC P a).size=25:=by split;exact qbwp;exact hE1
   have hDD2:(if d.e≠0 then pkZ else pkC P a).all (·.oneCell')=true:=by split;exact qmz0 Pk.zero adZ;exact hE2
   have RT:∀W,Below w.heap.size w W→PL W a.ps P.props→qd31 w R (.returned (.tuple #[.agg (if d.e≠0 then pkZ else pkC P a),.int .i64 ((d.e:Nat):Int)])) W:=fun W hb h1=>by
    rw[←hx]
    by_cases h0:d.e≠0
    ·simp only[if_pos h0]
     exact⟨adZ,rfl,qa3p _,hb⟩
    ·simp only[if_neg h0]
     exact⟨a,by rw[show d.e=0 by simpa using h0],FP.2.2 W h1,hb⟩
   have S9:ReA w wc.heap.size s B P a y (if d.e≠0 then pkZ else pkC P a) (false,false) W6.drew:=(ReA.mk S7.low S7.rs S7.pk S7.cs S7.ps S7.c1 S7.c2 S7.pf:ReA w wc.heap.size s B P a y (if d.e≠0 then pkZ else pkC P a) (false,false) W6).below (Below.refl _ _).drew
   generalize (if d.e≠0 then pkZ else pkC P a)=D at *
   have FPH:=Lib.hid FP
   replace RT:=Lib.hid RT
   replace VA:=Lib.hid VA
   replace DN:=Lib.hid DN
   have HDD1:=Lib.hid hDD1
   have HDD2:=Lib.hid hDD2
   have HE1:=Lib.hid hE1
   replace S9:=Lib.hid S9
   have hF:(pkC (pkB kind z1 c L) {adZ with ps:=A,pc:=cp})=pkC P a:=by rw[hP,ha]
   clear S6 S7 hx hP ha hf hd hE1 hE2 hDD1 hDD2 FP HX CP HRF hF
   refine qxem (S:=fun u W=>ReA w wc.heap.size s B P a y D u W) (B:=B) (R:=w.heap.size) (cb:=wc.heap.size) (v:=v) (k:=(f:Nat)) (z:=((d.e:Nat):Int)) (C:=pkC P a) (D:=D) S9.out HE1.out HDD1.out HDD2.out (fun x W h=>h.pk) (fun x W h h2=>by have:=h.rs;rw[h2] at this;exact this)
    (fun x W h=>(VA.out W (FPH.out.2.2 W h.ps)).mono fun e W' hh=>⟨hh.1,h.below hh.2⟩)
    (fun x W h h1=>(DN.out W (h.cs h1)).mono fun e W' hh=>⟨hh.1,h.call hh.2 (fun e=>by cases e)⟩)
    (fun x W h h1 h2=>by
     obtain⟨x1,x2⟩:=x
     simp only at h1 h2
     subst h1 h2
     exact h.store) ?_
   intro W h
   have GR:=Lib.hid (show W.heap[w.heap.size]? = some (.cells D 35 (0,0)) from h.rs)
   have RTV:=Lib.hid (RT.out W h.low h.ps)
   clear h S9 VA DN RT
   go_wp2_with fail
   exact q8iy (cs:=D) rfl rfl rfl rfl Tryz.underlying35 rfl (by rw[HDD1.out];exact q5nr) GR.out RTV.out
theorem qo8j{l:List Pr}{n:Nat}(h:qymj l≤n):∀x∈l,x.text.length≤n:=by
 induction l with
 | nil=>intro x hx;cases hx
 | cons y l ih=>
  intro x hx
  have e:qymj (y::l)=y.text.length+y.value.length+qymj l:=by simp[qymj]
  rw[e] at h
  rcases List.mem_cons.1 hx with rfl | hx
  ·omega
  ·exact ih (by omega) x hx
theorem qj99{p:Pk}{a:Ad}(h:qa3g p=true)(ca:p.props.length≤a.pc)(cm:a.pc≤9223372036854775807):RkP p a:=by
 obtain⟨_,_,h3,_⟩:=q2qrt h
 unfold qa3g q2y5 q3em at h
 simp only[Bool.and_eq_true,decide_eq_true_eq] at h
 exact⟨h3,ca,cm,fun x hx=>Nat.le_trans (qo8j h.1.1.1.1.2 x hx) (by decide)⟩
theorem qstc{p:Pk}(h:qa3g p=true):q21o p:=by
 obtain⟨h1,h2,h3,h4⟩:=q2qrt h
 exact⟨by omega,by omega,by omega,by omega⟩
theorem q2ad(p:Pk):(qo1u p).1.wProps=[]∧(qo1u p).1.codes=[]∧(qo1u p).1.filters=[]∧(qo1u p).1.props=[]:=by
 unfold qo1u
 split
 ·exact⟨rfl,rfl,rfl,rfl⟩
 ·split
  ·exact⟨rfl,rfl,rfl,rfl⟩
  ·exact⟨rfl,rfl,rfl,rfl⟩
structure AqS(w:World)(p:Pk)(a:Ad)(P:Pk)(b1 b2:Nat)(a1 a2:Ad)(W:World):Prop where
 bx:BxS w p a W
 c:W.heap[b1]? = some (.cells (pkC P a1) 35 (0,0))
 d:W.heap[b2]? = some (.cells (pkC P a2) 35 (0,0))
 ac:PkAt W P a1
 ad:PkAt W P a2
theorem AqS.below{w W W':World}{p P:Pk}{a a1 a2:Ad}{b1 b2:Nat}(h:AqS w p a P b1 b2 a1 a2 W)(hb:Below W.heap.size W W'):AqS w p a P b1 b2 a1 a2 W':=
 ⟨h.bx.call hb,(hb.block _ (lt_of_block h.c)).trans h.c,(hb.block _ (lt_of_block h.d)).trans h.d,h.ac.below hb,h.ad.below hb⟩
theorem q47d(v k:Int)(p:Pk)(a:Ad)(s:ByteArray)(w:World)(hp:PkAt w p a)(ok:PkOk p)(ca:PkCap p a)(cm:a.pc≤9223372036854775807∧a.wc≤9223372036854775807)(hk:-9223372036854775808≤k∧k≤9223372036854775807)(hs:s.size≤9223372036854775807) :
 Calls Tryz.prog 4 #[.int .i64 v,pkV p a,.int .i64 k,.string s] w fun e w'=>e = .returned (.bool true)∧Below w.heap.size w w':=by
 have S0:=Lib.hid (BxS.made w p a)
 have LG:=fun W (h:BxS w p a W)=>q1dl p a W (hp.below h.low) ok
 have C1:=Lib.hid (qwmp p a)
 have HZ:=Lib.hid qbwp
 have hzv:=qrai
 have hne:¬pkZ=#[]:=by intro h;have:=qbwp;rw[h] at this;cases this
 cases hl:qa3g p with
 | false=>
  rw[hl] at LG
  have LG:=Lib.hid LG
  clear hl
  unfold pkV at *
  go_enter Tryz.func4,Tryz.ntmps4
  go_wp2_with fail
  refine(q6if _).mono ?_
  rintro e W ⟨rfl,hb⟩
  have S1:=Lib.hid (S0.out.call hb)
  clear hb
  go_wp2_with (refine wpList_load_row rfl _ _ rfl w.heap.size rfl 35 _ (0,0) _ S1.out.box Tryz.underlying35 rfl (by rw[C1.out];exact q5nr) ?_)
  refine(LG.out _ S1.out).mono ?_
  rintro e W2 ⟨rfl,hb⟩
  have L2:=Lib.hid (qxh2 S1.out.low hb)
  clear hb
  go_wp2_with fail
  go_ret
  exact⟨rfl,L2.out⟩
 | true=>
  rw[hl] at LG
  have sp:=qstc hl
  have fp:=qj99 hl ca.pc cm.1
  have LK:=q2qrt hl
  have LG:=Lib.hid LG
  clear hl
  by_cases h2:2000 < s.size
  ·have hd:decide ((2000:Int) < (s.size:Int))=true:=decide_eq_true (by omega)
   clear h2 LK
   unfold pkV at *
   go_enter Tryz.func4,Tryz.ntmps4
   go_wp2_with fail
   refine(q6if _).mono ?_
   rintro e W ⟨rfl,hb⟩
   have S1:=Lib.hid (S0.out.call hb)
   clear hb
   go_wp2_with (refine wpList_load_row rfl _ _ rfl w.heap.size rfl 35 _ (0,0) _ S1.out.box Tryz.underlying35 rfl (by rw[C1.out];exact q5nr) ?_)
   refine(LG.out _ S1.out).mono ?_
   rintro e W2 ⟨rfl,hb⟩
   have L2:=Lib.hid (qxh2 S1.out.low hb)
   clear hb
   go_wp2_with fail
   go_ret
   exact⟨rfl,L2.out⟩
  ·have hd:decide ((2000:Int) < (s.size:Int))=false:=decide_eq_false (by omega)
   have h20:s.size≤2000:=by omega
   have OW:=fun W (h:BxS w p a W)=>qzxl p a W (hp.below h.low) (by omega) (by omega) (by omega) (by omega)
   have BO:=fun(b:Ad) W (h:PkAt W p b) (hc:p.props.length≤b.pc∧p.wProps.length≤b.wc)=>q9ca v p b W h sp ok hc.1
   have RB:=fun W (h:BxS w p a W)=>q3pj v p a W (hp.below h.low) sp fp
   have VA:=fun W (h:BxS w p a W)=>qat7 v p a W (hp.below h.low) sp ok ca.pc
   have RV:=fun W (h:BxS w p a W)=>qhl1 v p a W (hp.below h.low) sp fp
   have FL:=fun W=>qj9k p a W
   have RF:=fun W=>q9gv p a W
   obtain⟨nx,hnx⟩:∃n,qo1u p=n:=⟨_,rfl⟩
   rw[hnx] at FL RF
   have hnp:nx.1.wProps=[]∧nx.1.codes=[]∧nx.1.filters=[]∧nx.1.props=[]:=by rw[←hnx];exact q2ad p
   have NSM:=fun W=>qbsf nx.1 adZ adZ W (qx9v _ W hnp) (qx9v _ W hnp) (by rw[hnp.2.1];decide) (by rw[hnp.2.2.1];decide) (by rw[hnp.2.2.2];decide) (by rw[hnp.1];decide)
   obtain⟨n1,nb⟩:=nx
   obtain⟨M,hM⟩:∃M,pkC n1 adZ=M:=⟨_,rfl⟩
   have HM1:=Lib.hid (show M.size=25 by rw[←hM];exact qwmp _ _)
   have HM2:=Lib.hid (show M.all (·.oneCell')=true by rw[←hM];exact qmz0 _ _)
   unfold pkV at NSM
   simp only[hM] at FL RF NSM
   replace NSM:=Lib.hid NSM
   clear hnx hnp hM
   have RD:=fun W=>qbjs v k s W hk.1 hk.2 (by omega)
   have RR:=fun W=>qaqn v k s W hk.1 hk.2 h20
   obtain⟨R,hR⟩:∃R,q9uf v k s.data.toList=R:=⟨_,rfl⟩
   rw[hR] at RD RR
   have HR:=Lib.hid hR
   obtain⟨A,hA⟩:∃A,q04h v p=A:=⟨_,rfl⟩
   rw[hA] at RB
   have BO:=fun b W h hc=>BO b W h hc
   rw[hA] at BO
   have OW:=Lib.hid OW
   have BO:=Lib.hid BO
   have RB:=Lib.hid RB
   have VA:=Lib.hid VA
   have RV:=Lib.hid RV
   have FL:=Lib.hid FL
   have RF:=Lib.hid RF
   have RD:=Lib.hid RD
   have RR:=Lib.hid RR
   have HP:=Lib.hid hp
   clear h2 hs h20 hR hA LK sp fp ca cm ok hp hk
   unfold pkV at *
   go_enter Tryz.func4,Tryz.ntmps4
   go_wp2_with fail
   refine(q6if _).mono ?_
   rintro e W ⟨rfl,hb⟩
   have S1:=Lib.hid (S0.out.call hb)
   clear hb
   go_wp2_with (refine wpList_load_row rfl _ _ rfl w.heap.size rfl 35 _ (0,0) _ S1.out.box Tryz.underlying35 rfl (by rw[C1.out];exact q5nr) ?_)
   refine(LG.out _ S1.out).mono ?_
   rintro e W2 ⟨rfl,hb⟩
   have S2:=Lib.hid (S1.out.call hb)
   clear hb S1
   go_wp2_with (refine wpList_load_row rfl _ _ rfl w.heap.size rfl 35 _ (0,0) _ S2.out.box Tryz.underlying35 rfl (by rw[C1.out];exact q5nr) ?_)
   refine(OW.out _ S2.out).mono ?_
   rintro e W3 ⟨b,rfl,hat,hcb,hb⟩
   have S3:=Lib.hid (S2.out.call hb)
   have BB:=Lib.hid (BO.out b W3 hat hcb)
   clear hb hat hcb S2 BO
   go_wp2_with fail
   refine(BB.out).mono ?_
   rintro e W4 ⟨rfl,hb⟩
   have S4:=Lib.hid (S3.out.call hb)
   clear hb S3 BB
   go_wp2_with (refine wpList_load_row rfl _ _ rfl w.heap.size rfl 35 _ (0,0) _ S4.out.box Tryz.underlying35 rfl (by rw[C1.out];exact q5nr) ?_)
   refine(RB.out _ S4.out).mono ?_
   rintro e W5 ⟨rfl,hb⟩
   have S5:=Lib.hid (S4.out.call hb)
   clear hb S4 RB
   go_wp2_with fail
   refine(RD.out _).mono ?_
   rintro e W6 ⟨a1,rfl,at1,_,fit1,hb,_⟩
   have F0:=Lib.hid fit1.2
   clear fit1
   have S6:=S5.out.call hb
   have hbx:Below W6.heap.size W6 ((W6.alloc (.cells pkZ 35)).setRow W6.heap.size (pkC R.1 a1)):=q8xz (qybm _) (Nat.le_refl _) _
   have S7:=Lib.hid (S6.call hbx)
   have AT7:=Lib.hid (at1.below hbx)
   have R7:=Lib.hid (setRow_heap _ _ _ (pkC R.1 a1) _ _ (heap_alloc_new W6 (.cells pkZ 35)))
   have HD1:=Lib.hid (qwmp R.1 a1)
   have HD2:=Lib.hid (qmz0 R.1 a1)
   clear hb at1 S6 hbx S5
   go_upto_region 8 with (refine wpList_store_row rfl _ _ _ rfl W6.heap.size (pkC R.1 a1) rfl rfl 35 _ (heap_alloc_new W6 _) (by rw[HD1.out];exact q5nr) (by rw[HZ.out,HD1.out]) HD2.out ?_)
   generalize (W6.alloc (.cells pkZ 35)).setRow W6.heap.size (pkC R.1 a1)=W7 at *
   generalize W6.heap.size=b1 at *
   go_wp2_with fail
   refine(RR.out _).mono ?_
   rintro e W8 ⟨a2,rfl,at2,hb⟩
   have hbx:Below W8.heap.size W8 ((W8.alloc (.cells pkZ 35)).setRow W8.heap.size (pkC R.1 a2)):=q8xz (qybm _) (Nat.le_refl _) _
   have hbb:=qxh2 hb hbx
   have S9:=Lib.hid (show AqS w p a R.1 b1 W8.heap.size a1 a2 _ from⟨S7.out.call hbb,(hbb.block _ (lt_of_block R7.out)).trans R7.out,setRow_heap _ _ _ (pkC R.1 a2) _ _ (heap_alloc_new W8 (.cells pkZ 35)),AT7.out.below hbb,at2.below hbx⟩)
   have HE1:=Lib.hid (qwmp R.1 a2)
   have HE2:=Lib.hid (qmz0 R.1 a2)
   clear hb hbx hbb at2 S7 AT7 R7
   go_upto_region 9 with (refine wpList_store_row rfl _ _ _ rfl W8.heap.size (pkC R.1 a2) rfl rfl 35 _ (heap_alloc_new W8 _) (by rw[HE1.out];exact q5nr) (by rw[HZ.out,HE1.out]) HE2.out ?_)
   generalize (W8.alloc (.cells pkZ 35)).setRow W8.heap.size (pkC R.1 a2)=W9 at *
   generalize W8.heap.size=b2 at *
   have SM:=fun W (h:AqS w p a R.1 b1 b2 a1 a2 W)=>(qbsf R.1 a1 a2 W h.ac h.ad F0.out.1 F0.out.2.1 F0.out.2.2.1 F0.out.2.2.2)
   have V1:=fun W (h:AqS w p a R.1 b1 b2 a1 a2 W)=>(VA.out W h.bx)
   have V2:=fun W (h:AqS w p a R.1 b1 b2 a1 a2 W)=>(RV.out W h.bx)
   replace SM:=Lib.hid SM
   replace V1:=Lib.hid V1
   replace V2:=Lib.hid V2
   go_wp2_with (refine wpList_load_row rfl _ _ rfl w.heap.size rfl 35 _ (0,0) _ S9.out.bx.box Tryz.underlying35 rfl (by rw[C1.out];exact q5nr) ?_)
   refine(FL.out _).mono ?_
   rintro e W10 ⟨rfl,hb⟩
   have hbx:Below W10.heap.size W10 ((W10.alloc (.cells pkZ 35)).setRow W10.heap.size M):=q8xz (qybm _) (Nat.le_refl _) _
   have S10:=Lib.hid ((S9.out.below hb).below hbx)
   have R10:=Lib.hid (setRow_heap _ _ _ M _ _ (heap_alloc_new W10 (.cells pkZ 35)))
   clear hb S9 hbx
   go_upto_region 10 with (refine wpList_store_row rfl _ _ _ rfl W10.heap.size M rfl rfl 35 _ (heap_alloc_new W10 _) (by rw[HM1.out];exact q5nr) (by rw[HZ.out,HM1.out]) HM2.out ?_)
   generalize (W10.alloc (.cells pkZ 35)).setRow W10.heap.size M=W11 at *
   generalize W10.heap.size=b3 at *
   go_wp2_with (refine wpList_load_row rfl _ _ rfl w.heap.size rfl 35 _ (0,0) _ S10.out.bx.box Tryz.underlying35 rfl (by rw[C1.out];exact q5nr) ?_)
   refine(RF.out _).mono ?_
   rintro e W12 ⟨rfl,hb⟩
   have hbx:Below W12.heap.size W12 ((W12.alloc (.cells pkZ 35)).setRow W12.heap.size M):=q8xz (qybm _) (Nat.le_refl _) _
   have hbb:=qxh2 hb hbx
   have S12:=Lib.hid (S10.out.below hbb)
   have R12:=Lib.hid ((hbb.block _ (lt_of_block R10.out)).trans R10.out)
   have T12:=Lib.hid (setRow_heap _ _ _ M _ _ (heap_alloc_new W12 (.cells pkZ 35)))
   clear hb S10 hbx hbb R10
   go_upto_region 11 with (refine wpList_store_row rfl _ _ _ rfl W12.heap.size M rfl rfl 35 _ (heap_alloc_new W12 _) (by rw[HM1.out];exact q5nr) (by rw[HZ.out,HM1.out]) HM2.out ?_)
   generalize (W12.alloc (.cells pkZ 35)).setRow W12.heap.size M=W13 at *
   generalize W12.heap.size=b4 at *
   have KP:∀(W W':World),Below W.heap.size W W'→W.heap[b3]? = some (.cells M 35 (0,0))∧W.heap[b4]? = some (.cells M 35 (0,0))→W'.heap[b3]? = some (.cells M 35 (0,0))∧W'.heap[b4]? = some (.cells M 35 (0,0)):=fun W W' hb h=>⟨(hb.block _ (lt_of_block h.1)).trans h.1,(hb.block _ (lt_of_block h.2)).trans h.2⟩
   refine qpnh (S:=fun W=>AqS w p a R.1 b1 b2 a1 a2 W∧W.heap[b3]? = some (.cells M 35 (0,0))∧W.heap[b4]? = some (.cells M 35 (0,0))) (b:=w.heap.size) (b1:=b1) (b2:=b2) (b3:=b3) (b4:=b4) ⟨S12.out.below (Below.refl _ _).drew,R12.out,T12.out⟩ HD1.out HE1.out C1.out HM1.out (fun W h=>h.1.c) (fun W h=>h.1.d) (fun W h=>h.1.bx.box) (fun W h=>h.2.1) (fun W h=>h.2.2)
    (fun W h=>(SM.out W h.1).mono fun e W' hh=>⟨hh.1,h.1.below hh.2,KP W W' hh.2 h.2⟩) (fun W h=>(NSM.out W).mono fun e W' hh=>⟨hh.1,h.1.below hh.2,KP W W' hh.2 h.2⟩) (fun W h=>(V1.out W h.1).mono fun e W' hh=>⟨hh.1,h.1.below hh.2,KP W W' hh.2 h.2⟩) (fun W h=>(V2.out W h.1).mono fun e W' hh=>⟨hh.1,h.1.below hh.2,KP W W' hh.2 h.2⟩) ?_
   intro W h
   have LO:=Lib.hid h.1.bx.low
   clear h SM V1 V2
   go_wp2_with fail
   go_ret
   exact⟨rfl,LO.out⟩
end Go.Proofs.YthhdhagenmcbeaaGreat
