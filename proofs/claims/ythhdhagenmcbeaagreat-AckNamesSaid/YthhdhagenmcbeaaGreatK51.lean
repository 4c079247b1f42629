/- The contract of prop.Read, as a law's walk wants it. Condition: the bytes are no more than an int says. -/
import Derived.Deep.DeepCutAuto
import Derived.Great.BuildSlice
import Derived.Test.YthhdhagenmcbeaaGreatK50
import Derived.Test.YthhdhagenmcbeaaGreatK12
import Derived.Test.YthhdhagenmcbeaaGreatK48
import Derived.Test.YthhdhagenmcbeaaGreatK13
import Derived.Test.YthhdhagenmcbeaaGreatK27
import Derived.Test.YthhdhagenmcbeaaGreatK05
import Derived.Test.YthhdhagenmcbeaaGreatK14
import Derived.Test.YthhdhagenmcbeaaGreatK39
import Derived.Test.YthhdhagenmcbeaaGreatK16
import Derived.Test.YthhdhagenmcbeaaGreatK21
set_option maxRecDepth 100000
set_option maxHeartbeats 4000000
namespace Go.Proofs.YthhdhagenmcbeaaGreat
open Go.RowKit
theorem q188(kind:Int)(s:ByteArray)(L:List Pr)(k F:Nat)(hk0:-9223372036854775808≤kind)(hk1:kind≤9223372036854775807)(hm:s.size≤9223372036854775807)(hq:qflw kind s.data.toList=(L,k,F))(W:World) :
 Calls Tryz.prog 81 #[.int .i64 kind,.string s] W fun e W'=>Below W.heap.size W W'∧∃A c,e = .returned (.tuple #[.slice A L.length c,.int .i64 (k:Nat),.int .i64 (F:Nat)])∧L.length≤c∧PL W' A L∧(∀p∈L,PrOk p)∧L.length≤1000∧∀g i,A=some ⟨g,i,none⟩→W.heap.size≤g:=by
 have:=q3kx kind s W hk0 hk1 hm
 rw[hq] at this
 refine this.mono fun e W' ⟨hb,ok,hl,v,he,ho⟩=>⟨hb,?_⟩
 obtain⟨A,c,rfl,hc,hP,hg⟩:=PL.owned ho rfl
 exact⟨A,c,he,hc,hP,ok,hl,hg⟩
section
variable{w W W':World}{cb:Nat}{s:ByteArray}{y:Cs}{B i:Nat}{kind:Int}
theorem qg0m(x:Cs):(x.num 1).1 < 65536:=by
 unfold Cs.num
 have:=qn9h (x.take 1).1
 have hl:(x.take 1).1.length≤1:=by
  unfold Cs.take
  split
  ·simp
  ·split
   ·simp
   ·simp;omega
 have:256^(x.take 1).1.length≤256^1:=Nat.pow_le_pow_right (by decide) hl
 omega
theorem qafx(hk0:-9223372036854775808≤kind)(hk1:kind≤9223372036854775807)(hm:s.size≤140737488351232)(h:CsS w cb s B y (pkB kind i 0 []) adZ W) :
 Calls Tryz.prog 51 #[.pointer (some ⟨cb,0,none⟩),.pointer (some ⟨B,0,none⟩)] W fun e W'=>e = .returned (.int .i64 ((qolc kind y).1.2.2:Nat))∧∃a',CsS w cb s B (qolc kind y).2 (pkB kind i (qolc kind y).1.1 (qolc kind y).1.2.1) a' W':=by
 have hm9:s.size≤9223372036854775807:=by omega
 have LF:=fun(z:Cs) W (h:CsAt W cb s z)=>qjtm hm9 h
 have H:=Lib.hid h
 have L1:=LF y W h.cs
 unfold qolc
 by_cases hr:y.r=[]
 ·rw[if_pos hr]
  rw[hr] at L1
  replace L1:=Lib.hid L1
  clear LF h hr hm hm9
  go_enter Tryz.func51,Tryz.ntmps51
  go_wp2_with fail
  refine(L1.out).mono ?_
  rintro e w2 ⟨rfl,n,rfl⟩
  have H2:=Lib.hid (H.out.draws n)
  go_wp2_with fail
  go_ret
  exact⟨rfl,adZ,H2.out⟩
 ·rw[if_neg hr]
  have q1:(((y.r.length:Nat):Int)==0)=false:=by
   have:=List.length_pos_iff.2 hr
   simp;omega
  generalize y.r.length=n1 at *
  have NM:=fun W (h:CsAt W cb s y)=>q8yf 1 (by decide) hm9 h
  have hz:=qg0m y
  obtain⟨z,hzz⟩:∃z,y.num 1=z:=⟨_,rfl⟩
  rw[hzz] at NM hz ⊢
  obtain⟨z1,z2⟩:=z
  simp only at NM hz ⊢
  have hz0:(z1:Int) < 65536:=by omega
  have L2:=fun W (h:CsAt W cb s z2)=>LF z2 W h
  replace NM:=Lib.hid NM
  replace L1:=Lib.hid L1
  by_cases hr2:z2.r=[]
  ·rw[if_pos hr2]
   rw[hr2] at L2
   replace L2:=Lib.hid L2
   clear LF h hr hm hm9 hr2 hzz hz
   go_enter Tryz.func51,Tryz.ntmps51
   go_wp2_with fail
   refine(L1.out).mono ?_
   rintro e w2 ⟨rfl,n,rfl⟩
   have H2:=Lib.hid (H.out.draws n)
   clear L1
   go_wp2_with fail
   refine(NM.out _ H2.out.cs).mono ?_
   rintro e w3 ⟨rfl,hc,hg⟩
   have H3:=Lib.hid (H2.out.call hc hg)
   have n21:w3.cell? ⟨B,21,none⟩=some (.int .i64 0):=H3.out.cell 21
   have f21:=H3.out.fr 21
   have H4:=Lib.hid (H3.out.set 21 (.int .i64 (z1:Int)) (P':=pkB kind i z1 []) (a':=adZ) rfl H3.out.ps H3.out.pc H3.out.pf)
   clear hc hg H2
   go_wp2_with fail
   refine(L2.out _ H4.out.cs).mono ?_
   rintro e w4 ⟨rfl,n,rfl⟩
   have H5:=Lib.hid (H4.out.draws n)
   clear H4 H3 n21 f21
   go_wp2_with fail
   go_ret
   exact⟨rfl,adZ,H5.out⟩
  ·rw[if_neg hr2]
   have q2:(((z2.r.length:Nat):Int)==0)=false:=by
    have:=List.length_pos_iff.2 hr2
    simp;omega
   generalize z2.r.length=n2 at *
   obtain⟨L,k,F,hq⟩:∃L k F,qflw kind z2.r=(L,k,F):=⟨_,_,_,rfl⟩
   have RD:=fun W (h:CsAt W cb s z2)=>q188 kind (bs z2.r) L k F hk0 hk1 (by rw[q5zk];have:=h.len;omega) hq W
   rw[hq]
   have RS:=fun W (h:CsAt W cb s z2)=>qzrp hm9 h
   have TK:=fun W (h:CsAt W cb s z2)=>qgtr k hm9 h
   have FL:=fun(x:Cs) W (h:CsAt W cb s x)=>qazj F h
   simp only
   generalize bs z2.r=T at *
   obtain⟨y3,hy3⟩:∃y3,z2.take k=y3:=⟨_,rfl⟩
   rw[hy3] at TK ⊢
   replace RD:=Lib.hid RD
   replace RS:=Lib.hid RS
   replace TK:=Lib.hid TK
   replace FL:=Lib.hid FL
   replace L2:=Lib.hid L2
   clear LF h hr hm hm9 hr2 hzz hz hy3 hq
   go_enter Tryz.func51,Tryz.ntmps51
   go_wp2_with fail
   refine(L1.out).mono ?_
   rintro e w2 ⟨rfl,n,rfl⟩
   have H2:=Lib.hid (H.out.draws n)
   clear L1
   go_wp2_with fail
   refine(NM.out _ H2.out.cs).mono ?_
   rintro e w3 ⟨rfl,hc,hg⟩
   have H3:=Lib.hid (H2.out.call hc hg)
   have n21:w3.cell? ⟨B,21,none⟩=some (.int .i64 0):=H3.out.cell 21
   have f21:=H3.out.fr 21
   have H4:=Lib.hid (H3.out.set 21 (.int .i64 (z1:Int)) (P':=pkB kind i z1 []) (a':=adZ) rfl H3.out.ps H3.out.pc H3.out.pf)
   clear hc hg H2
   go_wp2_with fail
   refine(L2.out _ H4.out.cs).mono ?_
   rintro e w4 ⟨rfl,n,rfl⟩
   have H5:=Lib.hid (H4.out.draws n)
   clear H4 H3 n21 f21
   go_upto_region 6 with fail
   refine qv1p (S:=fun x V=>CsS w cb s B z2 (pkB kind i z1 []) adZ V∧∀A c,x=some (A,c)→PL V A L∧L.length≤c∧∀g i,A=some ⟨g,i,none⟩→B < g) (n:=L.length) (k:=(k:Int)) (f:=(F:Int)) (t:=T) ⟨H5.out.draws 1,fun A c e=>by cases e⟩ (fun x V hS=>hS.1.cell 0)
    (fun x V hS=>(RS.out V hS.1.cs).mono fun e W' ⟨he,n,hn⟩=>⟨he,hn▸hS.1.draws n,fun A c e=>by
     obtain⟨p1,p2,p3⟩:=hS.2 A c e
     exact⟨hn▸p1.below (qnpu (Below.refl _ _) n),p2,p3⟩⟩)
    (fun x V hS=>(RD.out V hS.1.cs).mono fun e W' ⟨hb,A,c,he,hc,hP,_,_,hA⟩=>⟨A,c,he,hS.1.below hb,fun A' c' e=>by
     cases e
     exact⟨hP,hc,fun g i e=>Nat.lt_of_lt_of_le (lt_of_block hS.1.pk) (hA g i e)⟩⟩) ?_
   intro x V hx hS
   obtain⟨⟨A,c⟩,rfl⟩:=Option.isSome_iff_exists.1 hx
   obtain⟨p1,p2,p3⟩:=hS.2 A c rfl
   have H6:=Lib.hid hS.1
   have P6:=Lib.hid p1
   have Q6:=Lib.hid (And.intro p2 p3)
   have CB:=Lib.hid H6.out.ne
   have BB:=Lib.hid (show cb < B by have:=H6.out.lt;have:=H6.out.hB;omega)
   clear hx hS p1 p2 p3 H5
   go_wp2_with fail
   refine(TK.out _ H6.out.cs).mono ?_
   rintro e w7 ⟨rfl,hc,hg⟩
   have H7:=Lib.hid (H6.out.call hc hg)
   have P7:=Lib.hid (P6.out.grown hg (fun g i e=>by have:=Q6.out.2 g i e;have:=BB.out;omega))
   clear hc hg
   go_wp2_with fail
   refine(FL.out _ _ H7.out.cs).mono ?_
   rintro e w8 ⟨rfl,hc,hg⟩
   have H8:=Lib.hid (H7.out.call hc hg)
   have P8:=Lib.hid (P7.out.grown hg (fun g i e=>by have:=Q6.out.2 g i e;have:=BB.out;omega))
   have n24:w8.cell? ⟨B,24,none⟩=some (.slice none 0 0):=H8.out.cell 24
   have f24:=H8.out.fr 24
   have H9:=Lib.hid (H8.out.set 24 (.slice A L.length c) (P':=pkB kind i z1 L) (a':={adZ with ps:=A,pc:=c}) rfl P8.out Q6.out.1 Q6.out.2)
   clear hc hg
   go_wp2_with fail
   go_ret
   exact⟨rfl,_,H9.out⟩
end
end Go.Proofs.YthhdhagenmcbeaaGreat
namespace Go.Proofs.YthhdhagenmcbeaaGreat
theorem qoa7{kind:Int}{p:Pr}(h:qr4y kind p=0):PrOk p∧p.text.length≤65535∧p.value.length≤65535:=by
 obtain⟨hm,h4,h5⟩:=qo1o h
 obtain⟨_,h1,h2,_⟩:=qttn h
 obtain⟨r1,r2⟩:=qilb hm
 obtain⟨f0,f7,f1,f2,f3,f4,_⟩:=qznl hm
 have hn:p.n < 4294967296:=by
  by_cases hs:qwgc p.id≤4
  ·have h6:=(h4 hs).2.2.2
   have hs4:qwgc p.id=1∨qwgc p.id=2∨qwgc p.id=3∨qwgc p.id=4:=by omega
   rcases hs4 with e | e | e | e
   ·have:=f1 e;omega
   ·have:=f2 e;omega
   ·have:=f3 e;omega
   ·have:=f4 e;omega
  ·have:=(h5 (by omega)).1;omega
 exact⟨⟨by omega,by omega,hn,by omega,by omega⟩,h1,h2⟩
theorem qdz1(kind:Int)(s:List UInt8):(∀p∈(qflw kind s).1,PrOk p∧p.text.length≤65535∧p.value.length≤65535)∧(qflw kind s).1.length≤1000:=by
 by_cases h:(qflw kind s).2.2=0
 ·have hv:=(qugf (show qflw kind s=((qflw kind s).1,(qflw kind s).2.1,0) by rw[←h])).1
  obtain⟨h1,h2,_⟩:=(qgl5 _ _).1 hv
  exact⟨fun p hp=>qoa7 (h2.1 p hp),h1⟩
 ·rw[qjfk h]
  exact⟨fun p hp=>(nomatch hp),Nat.zero_le _⟩
end Go.Proofs.YthhdhagenmcbeaaGreat
namespace Go.Proofs.YthhdhagenmcbeaaGreat
open Go.RowKit
section
variable{w W W':World}{cb:Nat}{s:ByteArray}{y:Cs}{kind:Int}
theorem q6xm(x:Cs):(x.num 2).1 < 65536:=by
 unfold Cs.num
 have:=qn9h (x.take 2).1
 have hl:(x.take 2).1.length≤2:=by
  unfold Cs.take
  split
  ·simp
  ·split
   ·simp
   ·simp;omega
 have:256^(x.take 2).1.length≤256^2:=Nat.pow_le_pow_right (by decide) hl
 omega
theorem CsS.at_{B:Nat}{i c:Nat}{l:List Pr}{a:Ad}(h:CsS w cb s B y (pkB kind i c l) a W):PkAt W (pkB kind i c l) a:=
 ⟨fun e=>absurd rfl e,fun e=>absurd rfl e,fun e=>absurd rfl e,h.ps⟩
theorem q17y(v:Int)(y:Cs):(midB v kind y).1.2.2≤2:=by
 unfold midB qolc
 split
 ·split
  ·exact Nat.zero_le _
  ·split
   ·exact Nat.le_succ _
   ·exact Nat.le_refl _
 ·exact Nat.zero_le _
def q2i6(w:World)(cb:Nat)(R:Pk×Nat)(e:Ending)(W:World):Prop:=
 ∃a:Ad,e = .returned (.tuple #[.agg (pkC R.1 a),.int .i64 (R.2:Nat)])∧PL W a.ps R.1.props∧R.1.props.length≤a.pc∧(∀g i,a.ps=some ⟨g,i,none⟩→w.heap.size≤g)∧w.grownBy W (some cb)
theorem q8pc(v:Int)(hk0:-9223372036854775808≤kind)(hk1:kind≤9223372036854775807)(hm:s.size≤140737488351232)(h:CsAt w cb s y) :
 Calls Tryz.prog 23 #[.int .i64 v,.int .i64 kind,.pointer (some ⟨cb,0,none⟩)] w (q2i6 w cb ((qts0 v kind y).1,(qts0 v kind y).2.e)):=by
 have hm9:s.size≤9223372036854775807:=by omega
 have lt:=h.lt
 have h0:=h.alloc (.cells pkZ 35)
 have NM:=q8yf 2 (by decide) hm9 h0
 have hz:=q6xm y
 unfold qts0
 obtain⟨z,hzz⟩:∃z,y.num 2=z:=⟨_,rfl⟩
 rw[hzz] at NM hz ⊢
 obtain⟨z1,z2⟩:=z
 simp only at NM hz ⊢
 have hz0:(z1:Int) < 65536:=by omega
 have hw:IntKind.i64.wrap (z1:Int)=(z1:Int):=by rw[IntKind.wrap_i64];omega
 have TL:=fun B W (h:CsS w cb s B z2 (pkB kind z1 0 []) adZ W)=>qafx hk0 hk1 hm h
 have hlen:=q17y (kind:=kind) v z2
 have ER:=fun W (h:CsAt W cb s z2)=>q3gp h
 obtain⟨bb,hbb⟩:∃b,((v==5)&&((z2.e:Int)==0))=b:=⟨_,rfl⟩
 have hmid:midB v kind z2=if bb then qolc kind z2 else((0,[],0),z2):=by
  unfold midB
  rw[←hbb]
  by_cases h5:v=5<;>by_cases he:z2.e=0<;>simp[h5,he]
 have TL2:bb=true→∀B W,CsS w cb s B z2 (pkB kind z1 0 []) adZ W→Calls Tryz.prog 51 #[.pointer (some ⟨cb,0,none⟩),.pointer (some ⟨B,0,none⟩)] W fun e W'=>e = .returned (.int .i64 ((midB v kind z2).1.2.2:Nat))∧∃a',CsS w cb s B (midB v kind z2).2 (pkB kind z1 (midB v kind z2).1.1 (midB v kind z2).1.2.1) a' W':=fun hb B W h=>by
  rw[hmid,if_pos hb];exact TL B W h
 have TL3:bb=false→midB v kind z2=((0,[],0),z2):=fun hb=>by rw[hmid,if_neg (by rw[hb];decide)]
 clear TL hmid
 obtain⟨t,ht⟩:∃t,midB v kind z2=t:=⟨_,rfl⟩
 rw[ht] at hlen TL2 TL3 ⊢
 obtain⟨⟨c,l,n⟩,y3⟩:=t
 simp only at hlen TL2 ⊢
 have hn:n=0∨n=1∨n=2:=by omega
 have LF:=fun W (h:CsAt W cb s y3)=>qjtm hm9 h
 obtain⟨dd,hdd⟩:∃d,(decide ((0:Int) < ((y3.r.length:Nat):Int)) || decide ((necA (pkB kind z1 c l):Int) < (n:Int)))=d:=⟨_,rfl⟩
 have FL:=fun W (h:CsAt W cb s y3)=>qazj 5 h
 have hdY:(if y3.r≠[]∨necA (pkB kind z1 c l) < n then y3.fail 5 else y3)=if dd then y3.fail 5 else y3:=by
  rw[←hdd]
  have e:(y3.r≠[]∨necA (pkB kind z1 c l) < n)↔(decide ((0:Int) < ((y3.r.length:Nat):Int)) || decide ((necA (pkB kind z1 c l):Int) < (n:Int)))=true:=by
   rw[Bool.or_eq_true,decide_eq_true_eq,decide_eq_true_eq]
   rw[←List.length_pos_iff]
   omega
  simp only[e]
 rw[hdY]
 obtain⟨Y,hY⟩:∃Y,(if dd then y3.fail 5 else y3)=Y:=⟨_,rfl⟩
 rw[hY]
 have ER2:=fun W (h:CsAt W cb s Y)=>q3gp h
 have NE:=fun B a W (h:CsS w cb s B y3 (pkB kind z1 c l) a W)=>(q6c0 (pkB kind z1 c l) a W).mono fun e W' hh=>(⟨hh.1,h.below hh.2⟩:_∧CsS w cb s B y3 (pkB kind z1 c l) a W')
 have hnl:=qxhf (pkB kind z1 c l)
 obtain⟨D,hD⟩:∃D,pkC (pkB kind z1 0 []) adZ=D:=⟨_,rfl⟩
 have hD1:D.size=25:=by rw[←hD];exact qwmp _ _
 have hD2:D.all (·.oneCell')=true:=by rw[←hD];exact qmz0 _ _
 have HD:=Lib.hid hD
 have HD1:=Lib.hid hD1
 have HD2:=Lib.hid hD2
 have HZ:=Lib.hid qbwp
 have hzv:=qrai
 have hne:¬pkZ=#[]:=by intro h;have:=qbwp;rw[h] at this;cases this
 have RS0:=Lib.hid (heap_alloc_new w (.cells pkZ 35))
 have G0:=Lib.hid (World.grownBy_alloc w (.cells pkZ 35) (some cb))
 have LT:=Lib.hid lt
 replace TL3:=Lib.hid TL3
 have HB:=Lib.hid hbb
 have HN:=Lib.hid hn
 have HNL:=Lib.hid hnl
 have HY:=Lib.hid hY
 have HDD:=Lib.hid hdd
 replace NM:=Lib.hid NM
 replace TL2:=Lib.hid TL2
 replace ER:=Lib.hid ER
 replace LF:=Lib.hid LF
 replace FL:=Lib.hid FL
 replace ER2:=Lib.hid ER2
 replace NE:=Lib.hid NE
 clear hm hm9 h h0 lt hz hzz hbb hn hlen hnl hY hdd hdY ht hD hD1 hD2 hk0 hk1
 go_enter Tryz.func23,Tryz.ntmps23
 go_wp2_with fail
 refine(NM.out).mono ?_
 rintro e W1 ⟨rfl,hc,hg⟩
 have R1:=(hg.block _ (lt_of_block RS0.out) (fun e=>by have:=Option.some.inj e;have:=LT.out;omega)).trans RS0.out
 have S1:=Lib.hid (CsS.laid LT.out (qo6d G0.out hg) R1 hc HD.out rfl)
 clear hc hg R1 RS0 G0 NM
 go_upto_region 3 with (first
  | (refine wpList_buildTo rfl 35 _ rfl (some _) rfl D (by rw[←HD.out];kernel_rfl) ?_)
  | (refine wpList_store_row rfl _ _ _ rfl W1.heap.size D rfl rfl 35 _ (heap_alloc_new W1 _) (by rw[HD1.out];exact q5nr) (by rw[HZ.out,HD1.out]) HD2.out ?_))
 generalize W1.heap.size=B at *
 generalize (W1.alloc (.cells pkZ 35)).setRow _ D=W2 at *
 clear hzv hne
 go_cut [21] (fun s21 wx=>s21 = .bool bb∧CsS w cb s B z2 (pkB kind z1 0 []) adZ wx)
 case first=>
  by_cases h5:v=5
  ·subst h5
   obtain⟨b0,hb0⟩:∃b,((z2.e:Int)==0)=b:=⟨_,rfl⟩
   have HB1:=HB.out
   rw[hb0] at HB1
   have HB1:=Lib.hid HB1
   clear HB
   go_wp2_with fail
   refine(ER.out _ S1.out.cs).mono ?_
   rintro e W3 ⟨rfl,rfl⟩
   go_wp2_with fail
   go_meet
   exact⟨by rw[←HB1.out];rfl,S1.out⟩
  ·have h5':(v==5)=false:=beq_eq_false_iff_ne.2 h5
   have HB1:=HB.out
   rw[h5'] at HB1
   have HB1:=Lib.hid HB1
   clear HB h5
   go_wp2_with fail
   go_meet
   exact⟨by rw[←HB1.out];rfl,S1.out⟩
 case rest=>
  obtain⟨rfl,hS⟩:=hcut
  have S2:=Lib.hid hS
  clear hS S1 ER HB
  go_upto_if 21 with fail
  go_cut [9] (fun s9 wx=>s9 = .int .i64 (n:Int)∧∃a,CsS w cb s B y3 (pkB kind z1 c l) a wx)
  case first=>
   cases bb with
   | true=>
    have TL:=Lib.hid (TL2.out rfl)
    clear TL2 TL3
    go_wp2_with fail
    refine(TL.out _ _ S2.out).mono ?_
    rintro e W3 ⟨rfl,a,hS⟩
    have S3:=Lib.hid hS
    clear hS
    go_wp2_with fail
    go_meet
    exact⟨rfl,a,S3.out⟩
   | false=>
    have e:=TL3.out rfl
    simp only[Prod.mk.injEq] at e
    obtain⟨⟨rfl,rfl,rfl⟩,rfl⟩:=e
    clear TL2 TL3
    go_wp2_with fail
    go_meet
    exact⟨rfl,adZ,S2.out⟩
  case rest=>
   obtain⟨rfl,a,hS⟩:=hcut
   have S3:=Lib.hid hS
   clear hS S2 TL2 TL3
   have NEa:=Lib.hid (NE.out B a)
   have CX:=Lib.hid (qwmp (pkB kind z1 c l) a)
   go_upto_region 5 with fail
   go_cut [32] (fun s32 wx=>s32 = .bool dd∧CsS w cb s B y3 (pkB kind z1 c l) a wx)
   case first=>
    have LEN:=LF.out _ S3.out.cs
    obtain⟨m,hmm⟩:∃m:Int,((y3.r.length:Nat):Int)=m:=⟨_,rfl⟩
    have hm1:0≤m:=by omega
    have hd:=HDD.out
    rw[hmm] at LEN hd
    replace LEN:=Lib.hid LEN
    clear hmm HDD
    generalize necA (pkB kind z1 c l)=q at *
    by_cases hm0:0 < m
    ·have g1:decide ((0:Int) < m)=true:=decide_eq_true hm0
     rw[g1,Bool.true_or] at hd
     have HD3:=Lib.hid hd
     clear hd hm0 hm1
     go_wp2_with fail
     refine(LEN.out).mono ?_
     rintro e W4 ⟨rfl,k,rfl⟩
     have S4:=Lib.hid (S3.out.draws k)
     go_wp2_with fail
     go_meet
     exact⟨by rw[HD3.out],S4.out⟩
    ·obtain rfl:m=0:=by omega
     rw[show decide ((0:Int) < 0)=false from rfl,Bool.false_or] at hd
     have HD3:=Lib.hid hd
     clear hd hm0 hm1
     have hqn:decide (q < n)=decide ((q:Int) < (n:Int)):=by rw[decide_eq_decide];omega
     have HD4:=Lib.hid (hqn.trans HD3.out)
     clear hqn HD3
     have hn:=HN.out
     have hnl:=HNL.out
     go_wp2_with fail
     refine(LEN.out).mono ?_
     rintro e W4 ⟨rfl,k,rfl⟩
     have S4:=Lib.hid (S3.out.draws k)
     go_wp2_with (refine q2a5 rfl _ _ rfl B rfl 35 _ (0,0) _ S4.out.pk Tryz.underlying35 rfl (by rw[CX.out];exact q5nr) ?_)
     refine(NEa.out _ S4.out).mono ?_
     rintro e W5 ⟨rfl,hS⟩
     have S5:=Lib.hid hS
     clear hS
     go_wp2_with fail
     go_meet
     exact⟨congrArg Value.bool HD4.out,S5.out⟩
   case rest=>
    obtain⟨rfl,hS⟩:=hcut
    have S4:=Lib.hid hS
    clear hS S3 LF NE NEa HN HNL HDD
    go_upto_if 32 with fail
    go_cut [] (fun wx=>CsS w cb s B Y (pkB kind z1 c l) a wx)
    case first=>
     cases dd with
     | true=>
      go_wp2_with fail
      refine(FL.out _ S4.out.cs).mono ?_
      rintro e W5 ⟨rfl,hc,hg⟩
      have S5:=Lib.hid (S4.out.call hc hg)
      clear hc hg
      go_wp2_with fail
      go_meet
      rw[←HY.out]
      exact S5.out
     | false=>
      go_wp2_with fail
      go_meet
      rw[←HY.out]
      exact S4.out
    case rest=>
     have S5:=Lib.hid hcut
     clear hcut S4 FL
     have hx:=qwmp (pkB kind z1 c l) a
     have hy:=qmz0 (pkB kind z1 c l) a
     have RT:=Lib.hid (fun V (h:CsS w cb s B Y (pkB kind z1 c l) a V)=>(show q2i6 w cb (pkB kind z1 c l,Y.e) (.returned (.tuple #[.agg (pkC (pkB kind z1 c l) a),.int .i64 (Y.e:Nat)])) (V.setRow w.heap.size (pkC (pkB kind z1 c l) a)) from
      ⟨a,rfl,h.ps.kept (by simp[World.setRow]) (fun g i e _=>setRow_other V w.heap.size g _ (by have:=h.pf g i e;have:=h.hB;omega)),h.pc,fun g i e=>by have:=h.pf g i e;have:=h.hB;omega,
       ⟨h.g.os,h.g.tape,h.g.output,Nat.le_trans h.g.size (by simp[World.setRow]),fun k hk hne=>(setRow_other V w.heap.size k _ (by omega)).trans (h.g.block k hk hne)⟩⟩))
     have RS5:=Lib.hid (fun V (h:CsS w cb s B Y (pkB kind z1 c l) a V)=>setRow_heap V w.heap.size _ (pkC (pkB kind z1 c l) a) _ _ h.rs)
     obtain⟨C,hC⟩:∃C,pkC (pkB kind z1 c l) a=C:=⟨_,rfl⟩
     rw[hC] at hx hy RT RS5
     have HC1:=Lib.hid hx
     have HC2:=Lib.hid hy
     have HCC:=Lib.hid hC
     clear hx hy hC CX
     go_upto_region 7 with fail
     refine q55m (S:=CsS w cb s B Y (pkB kind z1 c l) a) (b:=w.heap.size) (B:=B) (cb:=cb) (f:=(Y.e:Nat)) (C:=C) (S5.out.draws 1) HC1.out HC2.out (by have:=S5.out.hB;omega) (fun V h=>by rw[←HCC.out];exact h.pk) (fun V h=>⟨_,h.rs,qbwp⟩) (fun V h=>ER2.out V h.cs) (fun V h=>ER2.out _ (h.cs.of_block (setRow_other V w.heap.size cb _ (by have:=h.lt;omega)))) ?_
     intro V h
     have G:=Lib.hid (RS5.out V h)
     have RTV:=Lib.hid (RT.out V h)
     clear h RT RS5
     go_wp2_with fail
     exact q8iy (cs:=C) rfl rfl rfl rfl Tryz.underlying35 rfl (by rw[HC1.out];exact q5nr) G.out RTV.out
end
end Go.Proofs.YthhdhagenmcbeaaGreat
