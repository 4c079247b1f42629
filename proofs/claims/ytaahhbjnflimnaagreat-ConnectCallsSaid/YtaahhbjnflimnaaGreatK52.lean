/- The contract of polyglotref08.Read. Condition: at most 2,000 bytes. -/
import Derived.Deep.DeepCutAuto
import Derived.Test.YtaahhbjnflimnaaGreatK51
import Derived.Test.YtaahhbjnflimnaaGreatK49
import Derived.Test.YtaahhbjnflimnaaGreatK28
import Derived.Test.YtaahhbjnflimnaaGreatK12
import Derived.Test.YtaahhbjnflimnaaGreatK38
import Derived.Test.YtaahhbjnflimnaaGreatK13
import Derived.Test.YtaahhbjnflimnaaGreatK50
set_option maxRecDepth 100000
set_option maxHeartbeats 4000000
namespace Go.Proofs.YtaahhbjnflimnaaGreat
open Go.RowKit
def FewK(p:Pk):Prop:=(p.props.length≤1010∧p.wProps.length≤1010)∧((∀x∈p.props,x.text.length≤200000)∧∀x∈p.wProps,x.text.length≤200000)∧p.wTopic.length≤200000
theorem qbwz(v:Int)(x:Cs):FewK (qnld v x).1:=by
 obtain⟨c,hc⟩:∃c,(x.name.vers v).flags v=c:=⟨_,rfl⟩
 obtain⟨d,hd⟩:∃d,c.2.num 2=d:=⟨_,rfl⟩
 obtain⟨p,hp⟩:∃p,d.2.props v 1=p:=⟨_,rfl⟩
 obtain⟨q,hq⟩:∃q,p.2.text=q:=⟨_,rfl⟩
 obtain⟨wp,hwp⟩:∃x,q.2.optP (c.1 / 4%2==1) v 16=x:=⟨_,rfl⟩
 obtain⟨wt,hwt⟩:∃x,wp.2.optT (c.1 / 4%2==1)=x:=⟨_,rfl⟩
 obtain⟨wd,hwd⟩:∃x,wt.2.optB (c.1 / 4%2==1)=x:=⟨_,rfl⟩
 obtain⟨us,hus⟩:∃x,wd.2.optT (c.1 / 128%2==1)=x:=⟨_,rfl⟩
 obtain⟨ps,hps⟩:∃x,us.2.optB (c.1 / 64%2==1)=x:=⟨_,rfl⟩
 rw[qy6q v x hc hd hp hq hwp hwt hwd hus hps]
 have f1:=q5pm d.2 v 1
 have f3:=qwpw q.2 (c.1 / 4%2==1) v 16
 have f4:=qsam wp.2 (c.1 / 4%2==1)
 rw[hp] at f1
 rw[hwp] at f3
 rw[hwt] at f4
 exact⟨⟨Nat.le_trans f1.2 (by decide),Nat.le_trans f3.2 (by decide)⟩,⟨fun y hy=>Nat.le_trans (f1.1 y hy).2.1 (by decide),fun y hy=>Nat.le_trans (f3.1 y hy).2.1 (by decide)⟩,Nat.le_trans f4 (by decide)⟩
theorem qfko(v:Int)(x:Cs):FewK (qx6n v x).1:=by
 obtain⟨a,ha⟩:∃a,x.num 1=a:=⟨_,rfl⟩
 obtain⟨b,hb⟩:∃b,(if a.1 > 1 then a.2.fail 7 else a.2).num 1=b:=⟨_,rfl⟩
 obtain⟨p,hp⟩:∃p,b.2.props v 2=p:=⟨_,rfl⟩
 have e:qx6n v x=({Pk.zero with kind:=2,session:=a.1==1,code:=b.1,props:=p.1},p.2):=by subst ha hb hp;rfl
 rw[e]
 have f1:=q5pm b.2 v 2
 rw[hp] at f1
 exact⟨⟨Nat.le_trans f1.2 (by decide),Nat.zero_le _⟩,⟨fun y hy=>Nat.le_trans (f1.1 y hy).2.1 (by decide),fun y hy=>(nomatch hy)⟩,Nat.zero_le _⟩
def q8yu(w:World)(R:Pk×Nat)(e:Ending)(W:World):Prop:=∃a:Ad,e = .returned (.tuple #[.agg (pkC R.1 a),.int .i64 (R.2:Nat)])∧PkAt W R.1 a∧Below w.heap.size w W
structure RqS(w:World)(cb:Nat)(s:ByteArray)(B:Nat)(P:Pk)(a:Ad)(y:Cs)(W:World):Prop where
 low:Below w.heap.size w W
 rs:W.heap[w.heap.size]? = some (.cells pkZ 28 (0,0))
 pk:W.heap[B]? = some (.cells (pkC P a) 28 (0,0))
 cs:RsAt W cb s y
 ps:PL W a.ps P.props
 ws:PL W a.w P.wProps
 c1:w.heap.size < cb
 c2:cb < B
 pf:∀g i,a.ps=some ⟨g,i,none⟩→B < g
 wf:∀g i,a.w=some ⟨g,i,none⟩→B < g
section
variable{w W W':World}{cb B:Nat}{s:ByteArray}{P:Pk}{a:Ad}{x y z:Cs}{v:Int}
theorem RqS.made(h:RsAt W cb s x)(hl:Below w.heap.size w W)(hr:W.heap[w.heap.size]? = some (.cells pkZ 28 (0,0)))(hc:w.heap.size < cb):RqS w cb s W.heap.size Pk.zero adZ x (W.alloc (.cells pkZ 28)):=
 ⟨qxh2 hl (qybm _),(heap_alloc_old _ _ (lt_of_block hr)).trans hr,heap_alloc_new _ _,h.below (qybm _),fun e=>absurd rfl e,fun e=>absurd rfl e,hc,h.lt,(fun g i e=>by cases e),(fun g i e=>by cases e)⟩
theorem RqS.call(h:RqS w cb s B P a y W)(hg:W.grownBy W' (some cb))(hy:RsAt W' cb s z):RqS w cb s B P a z W':=
 ⟨h.low.grown hg h.low.size (fun k e=>by have:=Option.some.inj e;have:=h.c1;omega),(hg.block _ (lt_of_block h.rs) (fun e=>by have:=Option.some.inj e;have:=h.c1;omega)).trans h.rs,(hg.block _ (lt_of_block h.pk) (fun e=>by have:=Option.some.inj e;have:=h.c2;omega)).trans h.pk,hy,
  h.ps.grown hg (fun g i e=>by have:=h.pf g i e;have:=h.c2;omega),h.ws.grown hg (fun g i e=>by have:=h.wf g i e;have:=h.c2;omega),h.c1,h.c2,h.pf,h.wf⟩
theorem RqS.below(h:RqS w cb s B P a y W)(hb:Below W.heap.size W W'):RqS w cb s B P a y W':=h.call (q9cp hb _) (h.cs.below hb)
theorem RqS.row(h:RqS w cb s B P a y W){P':Pk}{a':Ad}(hp:PL W a'.ps P'.props)(hw:PL W a'.w P'.wProps)(pf:∀g i,a'.ps=some ⟨g,i,none⟩→B < g)(wf:∀g i,a'.w=some ⟨g,i,none⟩→B < g):RqS w cb s B P' a' y (W.setRow B (pkC P' a')):=
 have hB:=h.c2
 have hc:=h.c1
 ⟨q8xz h.low (by omega) _,(setRow_other _ _ _ _ (by omega)).trans h.rs,setRow_heap _ _ _ _ _ _ h.pk,h.cs.of_block (setRow_other _ _ _ _ (by omega)),
  hp.grown (q573 W B _) (fun g i e=>by have:=pf g i e;omega),hw.grown (q573 W B _) (fun g i e=>by have:=wf g i e;omega),hc,hB,pf,wf⟩
theorem RqS.cell(h:RqS w cb s B P a y W)(j:Nat):W.cell? ⟨B,j,none⟩=(pkC P a)[j]? := cell_of_row _ _ j _ _ _ h.pk
theorem RqS.fr(h:RqS w cb s B P a y W)(j:Nat):W.frozen? ⟨B,j,none⟩=false:=frozen_of_row _ _ _ _ _ h.pk
theorem RqS.put(h:RqS w cb s B P a y W)(j:Nat)(u:Value){P':Pk}{a':Ad}(he:(pkC P a).setIfInBounds j u=pkC P' a')(hp:PL W a'.ps P'.props)(hw:PL W a'.w P'.wProps)(pf:∀g i,a'.ps=some ⟨g,i,none⟩→B < g)(wf:∀g i,a'.w=some ⟨g,i,none⟩→B < g):RqS w cb s B P' a' y (W.setCell ⟨B,j,none⟩ u):=by
 have hB:=h.c2
 have hc:=h.c1
 have k:=q99v W B j u
 have hk:=qlvy h.pk j u
 rw[he] at hk
 exact⟨h.low.setCell (show w.heap.size≤(⟨B,j,none⟩:Addr).block by show w.heap.size≤B;omega) u,(heap_setCell_other W ⟨B,j,none⟩ _ u (by show w.heap.size≠B;omega)).trans h.rs,hk,h.cs.of_block (heap_setCell_other W ⟨B,j,none⟩ _ u (by show cb≠B;omega)),
  hp.grown k (fun g i e=>by have:=pf g i e;omega),hw.grown k (fun g i e=>by have:=wf g i e;omega),hc,hB,pf,wf⟩
structure RlS(w:World)(cb:Nat)(s:ByteArray)(B:Nat)(P:Pk)(a:Ad)(y:Cs)(D:Array Value)(u:Bool×Bool)(W:World):Prop where
 low:Below w.heap.size w W
 rs:W.heap[w.heap.size]? = some (.cells (if u.2 then D else pkZ) 28 (0,0))
 pk:W.heap[B]? = some (.cells (pkC P a) 28 (0,0))
 cs:u.1=false→RsAt W cb s y
 ps:PL W a.ps P.props
 ws:PL W a.w P.wProps
 c1:w.heap.size < cb
 c2:cb < B
 pf:∀g i,a.ps=some ⟨g,i,none⟩→B < g
 wf:∀g i,a.w=some ⟨g,i,none⟩→B < g
variable{D:Array Value}{u:Bool×Bool}
theorem RlS.call(h:RlS w cb s B P a y D u W)(hg:W.grownBy W' (some cb)){u':Bool}(hy:u'=false→RsAt W' cb s y):RlS w cb s B P a y D (u',u.2) W':=
 ⟨h.low.grown hg h.low.size (fun k e=>by have:=Option.some.inj e;have:=h.c1;omega),(hg.block _ (lt_of_block h.rs) (fun e=>by have:=Option.some.inj e;have:=h.c1;omega)).trans h.rs,(hg.block _ (lt_of_block h.pk) (fun e=>by have:=Option.some.inj e;have:=h.c2;omega)).trans h.pk,hy,
  h.ps.grown hg (fun g i e=>by have:=h.pf g i e;have:=h.c2;omega),h.ws.grown hg (fun g i e=>by have:=h.wf g i e;have:=h.c2;omega),h.c1,h.c2,h.pf,h.wf⟩
theorem RlS.below(h:RlS w cb s B P a y D u W)(hb:Below W.heap.size W W'):RlS w cb s B P a y D u W':=h.call (q9cp hb _) (fun e=>(h.cs e).below hb)
theorem RlS.store(h:RlS w cb s B P a y D u W)(h1:u.1=true):RlS w cb s B P a y D (u.1,true) (W.setRow w.heap.size D):=
 have hB:=h.c2
 have hc:=h.c1
 ⟨q8xz h.low (Nat.le_refl _) _,setRow_heap _ _ _ _ _ _ h.rs,(setRow_other _ _ _ _ (by omega)).trans h.pk,(fun e=>by rw[h1] at e;cases e),
  h.ps.grown (q573 W w.heap.size _) (fun g i e=>by have:=h.pf g i e;omega),h.ws.grown (q573 W w.heap.size _) (fun g i e=>by have:=h.wf g i e;omega),hc,hB,h.pf,h.wf⟩
theorem qiul(v k:Int)(s:ByteArray)(w:World)(hm:s.size≤2000) :
 Calls Tryz.prog 14 #[.int .i64 v,.int .i64 k,.string s] w (q8yu w (q56s v k s.data.toList)):=by
 have KN:=Lib.hid (fun W=>qyet v W)
 have HZ:=Lib.hid qbwp
 have hzv:=qrai
 have hne:¬pkZ=#[]:=by intro h;have:=qbwp;rw[h] at this;cases this
 obtain⟨kn,hkn⟩:∃b,(versC v&&(k==1 || k==2))=b:=⟨_,rfl⟩
 obtain⟨R,hR⟩:∃R,q56s v k s.data.toList=R:=⟨_,rfl⟩
 rw[hR]
 have HR:=Lib.hid hR
 have HK:=Lib.hid hkn
 have HM:=Lib.hid hm
 have RS0:=Lib.hid (heap_alloc_new w (.cells pkZ 28))
 have L0:=Lib.hid (qybm (w:=w) (.cells pkZ 28))
 have ZW:(w.alloc (.cells pkZ 28)).heap.size=w.heap.size+1:=by simp
 have ZW:=Lib.hid ZW
 clear hkn hR hm
 go_enter Tryz.func14,Tryz.ntmps14
 go_upto_region 1 with fail
 generalize w.alloc (.cells pkZ 28)=W0 at *
 go_cut [21] (fun s21 wx=>s21 = .bool (!kn)∧W0=wx)
 case first=>
  have KV:=KN.out
  obtain⟨bv,hbv⟩:∃b,versC v=b:=⟨_,rfl⟩
  rw[hbv] at KV
  have hk2:=HK.out
  rw[hbv] at hk2
  have HK2:=Lib.hid hk2
  have KV:=Lib.hid KV
  clear hk2 hbv HK
  cases bv
  ·go_wp2_with fail
   refine(KV.out _).mono ?_
   rintro e W ⟨rfl,rfl⟩
   go_wp2_with fail
   all_goals
    go_meet
    refine⟨?_,rfl⟩
    have h:=HK2.out
    cases kn
    ·rfl
    ·exact absurd h (by simp)
  ·by_cases h1:k=1
   ·have e1:(k==1)=true:=by simpa using h1
    have e2:(k==2)=false:=by rw[h1];rfl
    have d1:(k != 1)=false:=by rw[h1];rfl
    clear h1
    have HV:=Lib.hid (show false=!kn by rw[←HK2.out];simp[e1,e2])
    clear HK2
    go_wp2_with fail
    refine(KV.out _).mono ?_
    rintro e W ⟨rfl,rfl⟩
    go_wp2_with fail
    go_meet
    exact⟨congrArg Value.bool HV.out,rfl⟩
   ·by_cases h2:k=2
    ·have e1:(k==1)=false:=by simpa using h1
     have e2:(k==2)=true:=by simpa using h2
     have d1:(k != 1)=true:=by rw[h2];rfl
     have d2:(k != 2)=false:=by rw[h2];rfl
     clear h1 h2
     have HV:=Lib.hid (show false=!kn by rw[←HK2.out];simp[e1,e2])
     clear HK2
     go_wp2_with fail
     refine(KV.out _).mono ?_
     rintro e W ⟨rfl,rfl⟩
     go_wp2_with fail
     go_meet
     exact⟨congrArg Value.bool HV.out,rfl⟩
    ·have e1:(k==1)=false:=by simpa using h1
     have e2:(k==2)=false:=by simpa using h2
     have d1:(k != 1)=true:=by simpa using h1
     have d2:(k != 2)=true:=by simpa using h2
     clear h1 h2
     have HV:=Lib.hid (show true=!kn by rw[←HK2.out];simp[e1,e2])
     clear HK2
     go_wp2_with fail
     refine(KV.out _).mono ?_
     rintro e W ⟨rfl,rfl⟩
     go_wp2_with fail
     go_meet
     exact⟨congrArg Value.bool HV.out,rfl⟩
 case rest=>
  obtain⟨rfl,rfl⟩:=hcut
  clear KN
  go_upto_if 21 with fail
  cases kn with
  | false=>
   have e:q56s v k s.data.toList=(Pk.zero,2):=by unfold q56s;rw[if_pos HK.out]
   have RT:=Lib.hid (show q8yu w R (.returned (.tuple #[.agg pkZ,.int .i64 2])) (W0.setRow w.heap.size pkZ) by rw[←HR.out,e];exact⟨adZ,rfl,qa3p _,q8xz L0.out (Nat.le_refl _) _⟩)
   clear e HK HR HM
   go_wp2_with (first
    | (refine wpList_buildTo rfl 28 _ rfl (some _) rfl pkZ (by kernel_rfl) ?_)
    | (refine wpList_store_row rfl _ _ _ rfl w.heap.size pkZ rfl rfl 28 _ RS0.out (by rw[HZ.out];exact q5nr) rfl (show pkZ.all (·.oneCell')=true from qmz0 Pk.zero adZ) ?_))
   refine q8iy (cs:=pkZ) rfl rfl rfl rfl Tryz.underlying28 rfl (by rw[HZ.out];exact q5nr) (setRow_heap _ _ _ _ _ _ RS0.out) ?_
   exact RT.out
  | true=>
   have hv:v=4∨v=5:=by have:=HK.out;simp[versC] at this;exact this.1
   have hk12:k=1∨k=2:=by have:=HK.out;simp at this;exact this.2
   have hx:q56s v k s.data.toList=(let x:=if k=1 then qnld v ⟨s.data.toList,0⟩ else qx6n v ⟨s.data.toList,0⟩
    let z:=qveh x.2 (validC v x.1)
    if z.e≠0 then(Pk.zero,z.e) else(x.1,0)):=by
    unfold q56s
    rw[if_neg (by rw[HK.out];decide)]
    rfl
   rw[HR.out] at hx
   have HX:=Lib.hid hx
   have HV:=Lib.hid hv
   clear hx hv HK HR
   go_wp2_with fail
   refine(qvbz s _).mono ?_
   rintro e W1 ⟨rfl,hc,hb1⟩
   have C1:=(show RsAt W1 W0.heap.size s ⟨s.data.toList,0⟩ from⟨0,Nat.zero_le _,hc,by simp⟩)
   rw[ZW.out] at C1 ⊢
   have S1:=Lib.hid (RqS.made (w:=w) C1 (qxh2 L0.out hb1) ((hb1.block _ (by rw[ZW.out];omega)).trans RS0.out) (by omega))
   clear hc hb1 C1
   go_upto_if 26 with fail
   obtain⟨z,hz⟩:∃z,(if k=1 then qnld v ⟨s.data.toList,0⟩ else qx6n v ⟨s.data.toList,0⟩)=z:=⟨_,rfl⟩
   have hx:=HX.out
   rw[hz] at hx
   have PX:FewK z.1∧FitP z.1:=by
    rw[←hz]
    split
    ·exact⟨qbwz v _,q553 v _⟩
    ·exact⟨qfko v _,qx14 v _⟩
   obtain⟨P,y⟩:=z
   simp only at hx PX
   have HX:=Lib.hid hx
   have PX:=Lib.hid PX
   have Z:=Lib.hid hz
   have LB:=Lib.hid (lt_of_block S1.out.pk)
   have HK:=Lib.hid hk12
   clear hx hz hk12 L0 RS0 ZW
   generalize W1.alloc (.cells pkZ 28)=W2 at *
   generalize W1.heap.size=B at *
   obtain⟨cb,hcb⟩:∃cb,w.heap.size+1=cb:=⟨_,rfl⟩
   rw[hcb] at S1 ⊢
   clear hcb
   go_cut [] (fun wx=>∃a:Ad,RqS w cb s B P a y wx∧(P.props.length≤a.pc∧P.wProps.length≤a.wc)∧(a.pc≤9223372036854775807∧a.wc≤9223372036854775807))
   case first=>
    have hm:=HM.out
    have hv:=HV.out
    by_cases h1:k=1
    ·have hz:=Z.out
     rw[if_pos h1] at hz
     have C:=fun W h=>quar (w:=W) (cb:=cb) (x:=⟨s.data.toList,0⟩) hv hm h
     rw[hz] at C
     have e1:(k==1)=true:=by simpa using h1
     have C:=Lib.hid C
     clear hz h1 hm hv Z HX HM HV
     go_wp2_with fail
     refine(C.out _ S1.out.cs).mono ?_
     rintro e W3 ⟨a,rfl,hp,hpc,hw,hwc,hpf,hwf,hc,hg⟩
     have S3:=Lib.hid (S1.out.call hg hc)
     have S4:=S3.out.row (P':=P) (a':=a) hp hw (fun g i e=>Nat.lt_of_lt_of_le LB.out (hpf g i e)) (fun g i e=>Nat.lt_of_lt_of_le LB.out (hwf g i e))
     have G3:=Lib.hid S3.out.pk
     have hE1:=qwmp P a
     have hE2:=qmz0 P a
     have CP:=Lib.hid (And.intro (And.intro hpc.1 hwc.1) (And.intro hpc.2 hwc.2))
     obtain⟨E,hE⟩:∃E,pkC P a=E:=⟨_,rfl⟩
     rw[hE] at hE1 hE2 S4 ⊢
     have HE1:=Lib.hid hE1
     have HE2:=Lib.hid hE2
     have S4:=Lib.hid S4
     clear hE1 hE2 hE hp hpc hw hwc hpf hwf hc hg S3 S1
     go_wp2_with (refine wpList_store_row rfl _ _ _ rfl B E rfl rfl 28 _ G3.out (by rw[HE1.out];exact q5nr) (by rw[HE1.out];rfl) HE2.out ?_)
     go_meet
     exact⟨a,S4.out,CP.out⟩
    ·have hz:=Z.out
     rw[if_neg h1] at hz
     have h2:k=2:=by rcases HK.out with h | h;exact absurd h h1;exact h
     have e1:(k==1)=false:=by simpa using h1
     have H2:=Lib.hid h2
     clear h1 h2 Z HX HK
     obtain⟨z,hz1⟩:∃z,(Cs.mk s.data.toList 0).num 1=z:=⟨_,rfl⟩
     obtain⟨n,y1⟩:=z
     have hn:n < 256:=by have:=qunn (Cs.mk s.data.toList 0);rw[hz1] at this;exact this
     obtain⟨y2,hy2⟩:∃z,(if n > 1 then y1.fail 7 else y1)=z:=⟨_,rfl⟩
     obtain⟨z,hz3⟩:∃z,y2.num 1=z:=⟨_,rfl⟩
     obtain⟨c,y3⟩:=z
     have hc:c < 256:=by have:=qunn y2;rw[hz3] at this;exact this
     obtain⟨z,hz4⟩:∃z,y3.props v 2=z:=⟨_,rfl⟩
     obtain⟨L,y4⟩:=z
     have e:qx6n v ⟨s.data.toList,0⟩=({Pk.zero with kind:=2,session:=n==1,code:=(c:Int),props:=L},y4):=by
      unfold qx6n
      simp only[hz1,hy2,hz3,hz4]
     rw[e] at hz
     obtain⟨hP,rfl⟩:=Prod.mk.inj hz
     have hm9:s.size≤9223372036854775807:=by omega
     have O1:=fun W (h:RsAt W cb s ⟨s.data.toList,0⟩)=>qyb5 1 (by decide) hm9 h
     rw[hz1] at O1
     have F7:=fun W (h:RsAt W cb s y1)=>qw3h 7 h
     have O2:=fun W (h:RsAt W cb s y2)=>qyb5 1 (by decide) hm9 h
     rw[hz3] at O2
     have PR:=fun W (h:RsAt W cb s y3)=>qlo7 v k hv (by rw[H2.out];decide) (by rw[H2.out];decide) hm h
     have hz4':=hz4
     rw[←H2.out] at hz4'
     rw[hz4'] at PR
     have hn0:(n:Int) < 256:=by omega
     have hc0:(c:Int) < 256:=by omega
     have hs1:((n:Int)==1)=(n==1):=by
      by_cases h1:n=1
      ·subst h1;rfl
      ·rw[beq_eq_false_iff_ne.2 h1,beq_eq_false_iff_ne.2 (by omega)]
     obtain⟨se,hse⟩:∃b,(n==1)=b:=⟨_,rfl⟩
     rw[hse] at hs1 hP
     obtain⟨bg,hbg⟩:∃b,decide (1 < n)=b:=⟨_,rfl⟩
     have hig:decide ((1:Int) < n)=bg:=by rw[←hbg,decide_eq_decide];omega
     have HY2:=Lib.hid (show(if bg then y1.fail 7 else y1)=y2 by rw[←hy2,←hbg];simp)
     have HP:=Lib.hid hP
     have O1:=Lib.hid O1
     have F7:=Lib.hid F7
     have O2:=Lib.hid O2
     have PR:=Lib.hid PR
     clear hz hz1 hn hy2 hz3 hc hz4 hz4' e hm9 hse hbg hP hm hv HM HV
     simp only at O1 O2 PR
     go_wp2_with fail
     refine(O1.out _ S1.out.cs).mono ?_
     rintro e W3 ⟨rfl,hc,hg⟩
     have S3:=Lib.hid (S1.out.call hg hc)
     have L3:=Lib.hid (lt_of_block S3.out.pk)
     clear hc hg S1 O1
     go_upto_if 33 with fail
     go_cut [] (fun wx=>RqS w cb s B Pk.zero adZ y2 wx)
     case first=>
      cases bg with
      | false=>
       have HN:Hid (y1=y2):=Lib.hid HY2.out
       go_wp2_with fail
       go_meet
       rw[←HN.out];exact S3.out
      | true=>
       have HN:Hid (y1.fail 7=y2):=Lib.hid HY2.out
       go_wp2_with fail
       refine(F7.out _ S3.out.cs).mono ?_
       rintro e W4 ⟨rfl,hc,hg⟩
       have S4:=Lib.hid (S3.out.call hg hc)
       clear hc hg S3
       go_wp2_with fail
       go_meet
       rw[←HN.out];exact S4.out
     case rest=>
      have S4:=Lib.hid hcut
      clear hcut S3 HY2 F7
      obtain⟨D,hD⟩:∃D,pkC {Pk.zero with kind:=k,session:=se,code:=(c:Int)} adZ=D:=⟨_,rfl⟩
      have hD1:=qwmp {Pk.zero with kind:=k,session:=se,code:=(c:Int)} adZ
      have hD2:=qmz0 {Pk.zero with kind:=k,session:=se,code:=(c:Int)} adZ
      rw[hD] at hD1 hD2
      have HD:=Lib.hid hD
      have HD1:=Lib.hid hD1
      have HD2:=Lib.hid hD2
      clear hD hD1 hD2
      go_wp2_with fail
      refine(O2.out _ S4.out.cs).mono ?_
      rintro e W5 ⟨rfl,hc,hg⟩
      have S5:=Lib.hid (S4.out.call hg hc)
      have G5:=Lib.hid S5.out.pk
      have S6:=S5.out.row (P':={Pk.zero with kind:=k,session:=se,code:=(c:Int)}) (a':=adZ) (fun e=>absurd rfl e) (fun e=>absurd rfl e) (fun g i e=>by cases e) (fun g i e=>by cases e)
      rw[HD.out] at S6
      have S6:=Lib.hid S6
      clear hc hg S4 S5 O2
      go_wp2_with (first
       | (refine wpList_buildTo rfl 28 _ rfl (some _) rfl D (by rw[←HD.out];kernel_rfl) ?_)
       | (refine wpList_store_row rfl _ _ _ rfl B D rfl rfl 28 _ G5.out (by rw[HD1.out];exact q5nr) (by rw[HD1.out];rfl) HD2.out ?_))
      generalize W5.setRow B D=W6 at *
      have LB6:=Lib.hid (lt_of_block S6.out.pk)
      refine(PR.out _ S6.out.cs).mono ?_
      rintro e W7 ⟨⟨A,cc,rfl,hl,hlm,hp,hA⟩,hc,hg⟩
      have S7:=Lib.hid (S6.out.call hg hc)
      have S8:=Lib.hid (S7.out.put 24 (.slice A L.length cc) (P':={Pk.zero with kind:=k,session:=se,code:=(c:Int),props:=L}) (a':={adZ with ps:=A,pc:=cc}) rfl hp (fun e=>absurd rfl e) (fun g i e=>Nat.lt_of_lt_of_le LB6.out (hA g i e)) (fun g i e=>by cases e))
      have n24:=S7.out.cell 24
      have f24:=S7.out.fr 24
      change _=some (Value.slice none 0 0) at n24
      have HL:=Lib.hid (And.intro hl hlm)
      clear hc hg hp hA hl hlm S6 S7 PR
      go_wp2_with fail
      go_meet
      refine⟨{adZ with ps:=A,pc:=cc},?_,?_,?_⟩
      ·have hP:=HP.out
       rw[←hP,←H2.out]
       exact S8.out
      ·rw[←HP.out];exact⟨HL.out.1,Nat.zero_le _⟩
      ·exact⟨HL.out.2,Nat.zero_le _⟩
   case rest=>
    obtain⟨a,hS,hcap,hcm⟩:=hcut
    have FP:RfP P a:=⟨PX.out.1.1,hcap,hcm,PX.out.1.2.1,PX.out.1.2.2⟩
    have hcs:P.codes=[]∧P.filters=[]:=PX.out.2.2.2.2
    have hat:∀W,PL W a.ps P.props→PL W a.w P.wProps→PkAt W P a:=fun W h1 h2=>⟨h2,by rw[hcs.1];exact CL.nil,by rw[hcs.2];exact CL.nil,h1⟩
    have VA:=fun W (h:PkAt W P a)=>qvbv v P a W h PX.out.2.2.1 FP
    obtain⟨f,hf⟩:∃f,validC v P=f:=⟨_,rfl⟩
    rw[hf] at VA
    have hx:=HX.out
    rw[hf] at hx
    have DN:=fun W (h:RsAt W cb s y)=>qeyg (p:=P) (a:=a) f (by have:=HM.out;omega) h
    obtain⟨d,hd⟩:∃d,qveh y f=d:=⟨_,rfl⟩
    rw[hd] at hx DN
    have hE1:=qwmp P a
    have hE2:=qmz0 P a
    have hD1:(if d.e≠0 then pkZ else pkC P a).size=25:=by split;exact qbwp;exact hE1
    have hD2:(if d.e≠0 then pkZ else pkC P a).all (·.oneCell')=true:=by split;exact qmz0 Pk.zero adZ;exact hE2
    have HAT:=Lib.hid hat
    have RT:∀W,Below w.heap.size w W→PL W a.ps P.props→PL W a.w P.wProps→q8yu w R (.returned (.tuple #[.agg (if d.e≠0 then pkZ else pkC P a),.int .i64 ((d.e:Nat):Int)])) W:=fun W hb h1 h2=>by
     rw[hx]
     by_cases h0:d.e≠0
     ·rw[if_pos h0,if_pos h0]
      exact⟨adZ,rfl,qa3p _,hb⟩
     ·rw[if_neg h0,if_neg h0]
      exact⟨a,by rw[show d.e=0 by simpa using h0],HAT.out W h1 h2,hb⟩
    have S9:RlS w cb s B P a y (if d.e≠0 then pkZ else pkC P a) (false,false) wc.drew:=(RlS.mk hS.low hS.rs hS.pk (fun _=>hS.cs) hS.ps hS.ws hS.c1 hS.c2 hS.pf hS.wf:RlS w cb s B P a y (if d.e≠0 then pkZ else pkC P a) (false,false) wc).below ((Below.refl _ _).drew)
    generalize (if d.e≠0 then pkZ else pkC P a)=D at *
    have RT:=Lib.hid RT
    have VA:=Lib.hid VA
    have DN:=Lib.hid DN
    have HD1:=Lib.hid hD1
    have HD2:=Lib.hid hD2
    have S9:=Lib.hid S9
    have HE1:=Lib.hid hE1
    clear hS hcap hcm FP hcs hat hf hx hd hE1 hE2 hD1 hD2 HX PX Z HK HM HV S1 LB
    go_upto_region 12 with fail
    refine q7kq (S:=fun u W=>RlS w cb s B P a y D u W) (B:=B) (R:=w.heap.size) (cb:=cb) (v:=v) (k:=(f:Nat)) (z:=((d.e:Nat):Int)) (C:=pkC P a) (D:=D) S9.out HE1.out HD1.out HD2.out (fun x W h=>h.pk) (fun x W h h2=>by have:=h.rs;rw[h2] at this;exact this)
     (fun x W h=>(VA.out W (HAT.out W h.ps h.ws)).mono fun e W' hh=>⟨hh.1,h.below hh.2⟩)
     (fun x W h h1=>(DN.out W (h.cs h1)).mono fun e W' hh=>⟨hh.1,h.call hh.2 (fun e=>by cases e)⟩)
     (fun x W h h1 h2=>h.store h1) ?_
    intro W h
    have GR:=Lib.hid (show W.heap[w.heap.size]? = some (.cells D 28 (0,0)) from h.rs)
    have RT:=Lib.hid (RT.out W h.low h.ps h.ws)
    clear h S9 VA DN
    go_wp2_with fail
    exact q8iy (cs:=D) rfl rfl rfl rfl Tryz.underlying28 rfl (by rw[HD1.out];exact q5nr) GR.out RT.out
end
theorem qzb2{l:List Pr}{n:Nat}(h:qymj l≤n):∀x∈l,x.text.length≤n:=by
 induction l with
 | nil=>intro x hx;cases hx
 | cons y l ih=>
  intro x hx
  have e:qymj (y::l)=y.text.length+y.value.length+qymj l:=by simp[qymj]
  rw[e] at h
  rcases List.mem_cons.1 hx with rfl | hx
  ·omega
  ·exact ih (by omega) x hx
theorem qezm{p:Pk}{a:Ad}(h:qa3g p=true)(ca:PkCap p a)(cm:a.pc≤9223372036854775807∧a.wc≤9223372036854775807):RfP p a:=by
 obtain⟨_,_,h3,h4⟩:=q2qrt h
 unfold qa3g q2y5 q3em at h
 simp only[Bool.and_eq_true,decide_eq_true_eq] at h
 exact⟨⟨h3,h4⟩,⟨ca.pc,ca.wc⟩,cm,⟨fun x hx=>Nat.le_trans (qzb2 h.1.1.1.1.2 x hx) (by decide),fun x hx=>Nat.le_trans (qzb2 h.1.1.1.2.2 x hx) (by decide)⟩,by omega⟩
theorem qavq{p:Pk}(h:qa3g p=true):q21o p:=by
 obtain⟨h1,h2,h3,h4⟩:=q2qrt h
 exact⟨by omega,by omega,by omega,by omega⟩
theorem qbco{e:Nat}{x:Pk}(h:q21o x):q21o ((if e≠0 then(Pk.zero,e) else(x,0)):Pk×Nat).1:=by
 by_cases he:e≠0
 ·rw[if_pos he];exact qknl.2.1
 ·rw[if_neg he];exact h
theorem qypt(v k:Int)(l:List UInt8):q21o (q56s v k l).1:=by
 unfold q56s
 split
 ·exact qknl.2.1
 ·have hf:FitP (if k=1 then qnld v ⟨l,0⟩ else qx6n v ⟨l,0⟩).1:=by
   by_cases hk:k=1
   ·rw[if_pos hk];exact q553 v _
   ·rw[if_neg hk];exact qx14 v _
  exact qbco hf.2.1
structure CqS(w:World)(p:Pk)(a:Ad)(P:Pk)(b1 b2:Nat)(a1 a2:Ad)(W:World):Prop where
 bx:BxS w p a W
 c:W.heap[b1]? = some (.cells (pkC P a1) 28 (0,0))
 d:W.heap[b2]? = some (.cells (pkC P a2) 28 (0,0))
 ac:PkAt W P a1
 ad:PkAt W P a2
theorem CqS.below{w W W':World}{p P:Pk}{a a1 a2:Ad}{b1 b2:Nat}(h:CqS w p a P b1 b2 a1 a2 W)(hb:Below W.heap.size W W'):CqS w p a P b1 b2 a1 a2 W':=
 ⟨h.bx.call hb,(hb.block _ (lt_of_block h.c)).trans h.c,(hb.block _ (lt_of_block h.d)).trans h.d,h.ac.below hb,h.ad.below hb⟩
theorem qk98(v k:Int)(p:Pk)(a:Ad)(s:ByteArray)(w:World)(hp:PkAt w p a)(ok:PkOk p)(ca:PkCap p a)(cm:a.pc≤9223372036854775807∧a.wc≤9223372036854775807)(hs:s.size≤9223372036854775807) :
 Calls Tryz.prog 3 #[.int .i64 v,pkV p a,.int .i64 k,.string s] w fun e w'=>e = .returned (.bool true)∧Below w.heap.size w w':=by
 have S0:=Lib.hid (BxS.made w p a)
 have LG:=fun W (h:BxS w p a W)=>q1dl p a W (hp.below h.low) ok
 have C1:=Lib.hid (qwmp p a)
 have HZ:=Lib.hid qbwp
 have hzv:=qrai
 have hne:¬pkZ=#[]:=by intro h;have:=qbwp;rw[h] at this;cases this
 cases hl:qa3g p with
 | false=>
  rw[hl] at LG
  have LG:=Lib.hid LG
  clear hl
  unfold pkV at *
  go_enter Tryz.func3,Tryz.ntmps3
  go_wp2_with fail
  refine(q7j2 _).mono ?_
  rintro e W ⟨rfl,hb⟩
  have S1:=Lib.hid (S0.out.call hb)
  clear hb
  go_wp2_with (refine wpList_load_row rfl _ _ rfl w.heap.size rfl 28 _ (0,0) _ S1.out.box Tryz.underlying28 rfl (by rw[C1.out];exact q5nr) ?_)
  refine(LG.out _ S1.out).mono ?_
  rintro e W2 ⟨rfl,hb⟩
  have L2:=Lib.hid (qxh2 S1.out.low hb)
  clear hb
  go_wp2_with fail
  go_ret
  exact⟨rfl,L2.out⟩
 | true=>
  rw[hl] at LG
  have sp:=qavq hl
  have fp:=qezm hl ca cm
  have LK:=q2qrt hl
  have LG:=Lib.hid LG
  clear hl
  by_cases h2:2000 < s.size
  ·have hd:decide ((2000:Int) < (s.size:Int))=true:=decide_eq_true (by omega)
   clear h2 LK
   unfold pkV at *
   go_enter Tryz.func3,Tryz.ntmps3
   go_wp2_with fail
   refine(q7j2 _).mono ?_
   rintro e W ⟨rfl,hb⟩
   have S1:=Lib.hid (S0.out.call hb)
   clear hb
   go_wp2_with (refine wpList_load_row rfl _ _ rfl w.heap.size rfl 28 _ (0,0) _ S1.out.box Tryz.underlying28 rfl (by rw[C1.out];exact q5nr) ?_)
   refine(LG.out _ S1.out).mono ?_
   rintro e W2 ⟨rfl,hb⟩
   have L2:=Lib.hid (qxh2 S1.out.low hb)
   clear hb
   go_wp2_with fail
   go_ret
   exact⟨rfl,L2.out⟩
  ·have hd:decide ((2000:Int) < (s.size:Int))=false:=decide_eq_false (by omega)
   have h20:s.size≤2000:=by omega
   have OW:=fun W (h:BxS w p a W)=>qzxl p a W (hp.below h.low) (by omega) (by omega) (by omega) (by omega)
   have BO:=fun(b:Ad) W (h:PkAt W p b) (hc:p.props.length≤b.pc∧p.wProps.length≤b.wc)=>qz43 v p b W h sp ok ⟨hc.1,hc.2,ca.q⟩
   have RB:=fun W (h:BxS w p a W)=>qbtv v p a W (hp.below h.low) sp fp
   have VA:=fun W (h:BxS w p a W)=>qspo v p a W (hp.below h.low) sp ok ca
   have RV:=fun W (h:BxS w p a W)=>qvbv v p a W (hp.below h.low) sp fp
   have FL:=fun W=>qdq7 p a W
   have RF:=fun W=>qyrz p a W ca.q
   have RD:=fun W=>quqv v k s W hs
   have RR:=fun W=>qiul v k s W h20
   obtain⟨R,hR⟩:∃R,q56s v k s.data.toList=R:=⟨_,rfl⟩
   rw[hR] at RD RR
   have HR:=Lib.hid hR
   have HM0:=Lib.hid (qypt v k s.data.toList)
   obtain⟨A,hA⟩:∃A,qso1 v p=A:=⟨_,rfl⟩
   rw[hA] at RB
   have BO:=fun b W h hc=>BO b W h hc
   rw[hA] at BO
   have OW:=Lib.hid OW
   have BO:=Lib.hid BO
   have RB:=Lib.hid RB
   have VA:=Lib.hid VA
   have RV:=Lib.hid RV
   have FL:=Lib.hid FL
   have RF:=Lib.hid RF
   have RD:=Lib.hid RD
   have RR:=Lib.hid RR
   have HP:=Lib.hid hp
   clear h2 hs h20 hR hA LK sp fp ca cm ok hp
   unfold pkV at *
   go_enter Tryz.func3,Tryz.ntmps3
   go_wp2_with fail
   refine(q7j2 _).mono ?_
   rintro e W ⟨rfl,hb⟩
   have S1:=Lib.hid (S0.out.call hb)
   clear hb
   go_wp2_with (refine wpList_load_row rfl _ _ rfl w.heap.size rfl 28 _ (0,0) _ S1.out.box Tryz.underlying28 rfl (by rw[C1.out];exact q5nr) ?_)
   refine(LG.out _ S1.out).mono ?_
   rintro e W2 ⟨rfl,hb⟩
   have S2:=Lib.hid (S1.out.call hb)
   clear hb S1
   go_wp2_with (refine wpList_load_row rfl _ _ rfl w.heap.size rfl 28 _ (0,0) _ S2.out.box Tryz.underlying28 rfl (by rw[C1.out];exact q5nr) ?_)
   refine(OW.out _ S2.out).mono ?_
   rintro e W3 ⟨b,rfl,hat,hcb,hb⟩
   have S3:=Lib.hid (S2.out.call hb)
   have BB:=Lib.hid (BO.out b W3 hat hcb)
   clear hb hat hcb S2 BO
   go_wp2_with fail
   refine(BB.out).mono ?_
   rintro e W4 ⟨rfl,hb⟩
   have S4:=Lib.hid (S3.out.call hb)
   clear hb S3 BB
   go_wp2_with (refine wpList_load_row rfl _ _ rfl w.heap.size rfl 28 _ (0,0) _ S4.out.box Tryz.underlying28 rfl (by rw[C1.out];exact q5nr) ?_)
   refine(RB.out _ S4.out).mono ?_
   rintro e W5 ⟨rfl,hb⟩
   have S5:=Lib.hid (S4.out.call hb)
   clear hb S4 RB
   go_wp2_with fail
   refine(RD.out _).mono ?_
   rintro e W6 ⟨a1,rfl,at1,_,_,hb,_⟩
   have S6:=S5.out.call hb
   have hbx:Below W6.heap.size W6 ((W6.alloc (.cells pkZ 28)).setRow W6.heap.size (pkC R.1 a1)):=q8xz (qybm _) (Nat.le_refl _) _
   have S7:=Lib.hid (S6.call hbx)
   have AT7:=Lib.hid (at1.below hbx)
   have R7:=Lib.hid (setRow_heap _ _ _ (pkC R.1 a1) _ _ (heap_alloc_new W6 (.cells pkZ 28)))
   have HD1:=Lib.hid (qwmp R.1 a1)
   have HD2:=Lib.hid (qmz0 R.1 a1)
   clear hb at1 S6 hbx S5
   go_upto_region 8 with (refine wpList_store_row rfl _ _ _ rfl W6.heap.size (pkC R.1 a1) rfl rfl 28 _ (heap_alloc_new W6 _) (by rw[HD1.out];exact q5nr) (by rw[HZ.out,HD1.out]) HD2.out ?_)
   generalize (W6.alloc (.cells pkZ 28)).setRow W6.heap.size (pkC R.1 a1)=W7 at *
   generalize W6.heap.size=b1 at *
   go_wp2_with fail
   refine(RR.out _).mono ?_
   rintro e W8 ⟨a2,rfl,at2,hb⟩
   have hbx:Below W8.heap.size W8 ((W8.alloc (.cells pkZ 28)).setRow W8.heap.size (pkC R.1 a2)):=q8xz (qybm _) (Nat.le_refl _) _
   have hbb:=qxh2 hb hbx
   have S9:=Lib.hid (show CqS w p a R.1 b1 W8.heap.size a1 a2 _ from⟨S7.out.call hbb,(hbb.block _ (lt_of_block R7.out)).trans R7.out,setRow_heap _ _ _ (pkC R.1 a2) _ _ (heap_alloc_new W8 (.cells pkZ 28)),AT7.out.below hbb,at2.below hbx⟩)
   have HE1:=Lib.hid (qwmp R.1 a2)
   have HE2:=Lib.hid (qmz0 R.1 a2)
   clear hb hbx hbb at2 S7 AT7 R7
   go_upto_region 9 with (refine wpList_store_row rfl _ _ _ rfl W8.heap.size (pkC R.1 a2) rfl rfl 28 _ (heap_alloc_new W8 _) (by rw[HE1.out];exact q5nr) (by rw[HZ.out,HE1.out]) HE2.out ?_)
   generalize (W8.alloc (.cells pkZ 28)).setRow W8.heap.size (pkC R.1 a2)=W9 at *
   generalize W8.heap.size=b2 at *
   have F0:=Lib.hid (show q21o R.1 from by have:=HM0.out;rw[←HR.out];exact this)
   have SM:=fun W (h:CqS w p a R.1 b1 b2 a1 a2 W)=>(qbsf R.1 a1 a2 W h.ac h.ad F0.out.1 F0.out.2.1 F0.out.2.2.1 F0.out.2.2.2).mono fun e W' hh=>(⟨hh.1,h.below hh.2⟩:_∧CqS w p a R.1 b1 b2 a1 a2 W')
   have V1:=fun W (h:CqS w p a R.1 b1 b2 a1 a2 W)=>(VA.out W h.bx).mono fun e W' hh=>(⟨hh.1,h.below hh.2⟩:_∧CqS w p a R.1 b1 b2 a1 a2 W')
   have V2:=fun W (h:CqS w p a R.1 b1 b2 a1 a2 W)=>(RV.out W h.bx).mono fun e W' hh=>(⟨hh.1,h.below hh.2⟩:_∧CqS w p a R.1 b1 b2 a1 a2 W')
   have L1:=fun W (h:CqS w p a R.1 b1 b2 a1 a2 W)=>(FL.out W).mono fun e W' hh=>(⟨hh.1,h.below hh.2⟩:_∧CqS w p a R.1 b1 b2 a1 a2 W')
   have L2:=fun W (h:CqS w p a R.1 b1 b2 a1 a2 W)=>(RF.out W).mono fun e W' hh=>(⟨hh.1,h.below hh.2⟩:_∧CqS w p a R.1 b1 b2 a1 a2 W')
   refine qqwz (S:=CqS w p a R.1 b1 b2 a1 a2) (b:=w.heap.size) (b1:=b1) (b2:=b2) (S9.out.below (Below.refl _ _).drew) HD1.out HE1.out C1.out (fun W h=>h.c) (fun W h=>h.d) (fun W h=>h.bx.box) SM V1 V2 L1 L2 ?_
   intro W h
   have LO:=Lib.hid h.bx.low
   clear h SM V1 V2 L1 L2
   go_wp2_with fail
   go_ret
   exact⟨rfl,LO.out⟩
end Go.Proofs.YtaahhbjnflimnaaGreat
