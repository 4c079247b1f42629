/- The contract of prop.Read, as a law's walk wants it. Condition: the bytes are no more than an int says. -/
import Derived.Deep.DeepCutAuto
import Derived.Great.BuildSlice
import Derived.Deep.RegionHeld3
import Derived.Deep.LoopGhost
import Derived.Laws.ResultCell
import Derived.Test.YthhdhagenmcbeaaGreatK44
import Derived.Test.YthhdhagenmcbeaaGreatK09
import Derived.Test.YthhdhagenmcbeaaGreatK43
import Derived.Test.YthhdhagenmcbeaaGreatK10
import Derived.Test.YthhdhagenmcbeaaGreatK21
import Derived.Test.YthhdhagenmcbeaaGreatK06
import Derived.Test.YthhdhagenmcbeaaGreatK11
import Derived.Test.YthhdhagenmcbeaaGreatK34
import Derived.Test.YthhdhagenmcbeaaGreatK13
import Derived.Test.YthhdhagenmcbeaaGreatK18
import Derived.Test.YthhdhagenmcbeaaGreatK28
import Derived.Test.YthhdhagenmcbeaaGreatK42
import Derived.Test.YthhdhagenmcbeaaGreatK37
import Derived.Test.YthhdhagenmcbeaaGreatK40
import Derived.Test.YthhdhagenmcbeaaGreatK41
set_option maxRecDepth 100000
set_option maxHeartbeats 4000000
namespace Go.Proofs.YthhdhagenmcbeaaGreat
open Go.RowKit
theorem q188(kind:Int)(s:ByteArray)(L:List Pr)(k F:Nat)(hk0:-9223372036854775808≤kind)(hk1:kind≤9223372036854775807)(hm:s.size≤9223372036854775807)(hq:qflw kind s.data.toList=(L,k,F))(W:World) :
 Calls Tryz.prog 81 #[.int .i64 kind,.string s] W fun e W'=>Below W.heap.size W W'∧∃A c,e = .returned (.tuple #[.slice A L.length c,.int .i64 (k:Nat),.int .i64 (F:Nat)])∧L.length≤c∧PL W' A L∧(∀p∈L,PrOk p)∧L.length≤1000∧∀g i,A=some ⟨g,i,none⟩→W.heap.size≤g:=by
 have:=q3kx kind s W hk0 hk1 hm
 rw[hq] at this
 refine this.mono fun e W' ⟨hb,ok,hl,v,he,ho⟩=>⟨hb,?_⟩
 obtain⟨A,c,rfl,hc,hP,hg⟩:=PL.owned ho rfl
 exact⟨A,c,he,hc,hP,ok,hl,hg⟩
section
variable{w W W':World}{cb:Nat}{s:ByteArray}{y:Cs}{B i:Nat}{kind:Int}
theorem qg0m(x:Cs):(x.num 1).1 < 65536:=by
 unfold Cs.num
 have:=qn9h (x.take 1).1
 have hl:(x.take 1).1.length≤1:=by
  unfold Cs.take
  split
  ·simp
  ·split
   ·simp
   ·simp;omega
 have:256^(x.take 1).1.length≤256^1:=Nat.pow_le_pow_right (by decide) hl
 omega
theorem qafx(hk0:-9223372036854775808≤kind)(hk1:kind≤9223372036854775807)(hm:s.size≤140737488351232)(h:CsS w cb s B y (pkB kind i 0 []) adZ W) :
 Calls Tryz.prog 51 #[.pointer (some ⟨cb,0,none⟩),.pointer (some ⟨B,0,none⟩)] W fun e W'=>e = .returned (.int .i64 ((qolc kind y).1.2.2:Nat))∧∃a',CsS w cb s B (qolc kind y).2 (pkB kind i (qolc kind y).1.1 (qolc kind y).1.2.1) a' W':=by
 have hm9:s.size≤9223372036854775807:=by omega
 have LF:=fun(z:Cs) W (h:CsAt W cb s z)=>qjtm hm9 h
 have H:=Lib.hid h
 have L1:=LF y W h.cs
 unfold qolc
 by_cases hr:y.r=[]
 ·rw[if_pos hr]
  rw[hr] at L1
  replace L1:=Lib.hid L1
  clear LF h hr hm hm9
  go_enter Tryz.func51,Tryz.ntmps51
  go_wp2_with fail
  refine(L1.out).mono ?_
  rintro e w2 ⟨rfl,n,rfl⟩
  have H2:=Lib.hid (H.out.draws n)
  go_wp2_with fail
  go_ret
  exact⟨rfl,adZ,H2.out⟩
 ·rw[if_neg hr]
  have q1:(((y.r.length:Nat):Int)==0)=false:=by
   have:=List.length_pos_iff.2 hr
   simp;omega
  generalize y.r.length=n1 at *
  have NM:=fun W (h:CsAt W cb s y)=>q8yf 1 (by decide) hm9 h
  have hz:=qg0m y
  obtain⟨z,hzz⟩:∃z,y.num 1=z:=⟨_,rfl⟩
  rw[hzz] at NM hz ⊢
  obtain⟨z1,z2⟩:=z
  simp only at NM hz ⊢
  have hz0:(z1:Int) < 65536:=by omega
  have L2:=fun W (h:CsAt W cb s z2)=>LF z2 W h
  replace NM:=Lib.hid NM
  replace L1:=Lib.hid L1
  by_cases hr2:z2.r=[]
  ·rw[if_pos hr2]
   rw[hr2] at L2
   replace L2:=Lib.hid L2
   clear LF h hr hm hm9 hr2 hzz hz
   go_enter Tryz.func51,Tryz.ntmps51
   go_wp2_with fail
   refine(L1.out).mono ?_
   rintro e w2 ⟨rfl,n,rfl⟩
   have H2:=Lib.hid (H.out.draws n)
   clear L1
   go_wp2_with fail
   refine(NM.out _ H2.out.cs).mono ?_
   rintro e w3 ⟨rfl,hc,hg⟩
   have H3:=Lib.hid (H2.out.call hc hg)
   have n21:w3.cell? ⟨B,21,none⟩=some (.int .i64 0):=H3.out.cell 21
   have f21:=H3.out.fr 21
   have H4:=Lib.hid (H3.out.set 21 (.int .i64 (z1:Int)) (P':=pkB kind i z1 []) (a':=adZ) rfl H3.out.ps H3.out.pc H3.out.pf)
   clear hc hg H2
   go_wp2_with fail
   refine(L2.out _ H4.out.cs).mono ?_
   rintro e w4 ⟨rfl,n,rfl⟩
   have H5:=Lib.hid (H4.out.draws n)
   clear H4 H3 n21 f21
   go_wp2_with fail
   go_ret
   exact⟨rfl,adZ,H5.out⟩
  ·rw[if_neg hr2]
   have q2:(((z2.r.length:Nat):Int)==0)=false:=by
    have:=List.length_pos_iff.2 hr2
    simp;omega
   generalize z2.r.length=n2 at *
   obtain⟨L,k,F,hq⟩:∃L k F,qflw kind z2.r=(L,k,F):=⟨_,_,_,rfl⟩
   have RD:=fun W (h:CsAt W cb s z2)=>q188 kind (bs z2.r) L k F hk0 hk1 (by rw[q5zk];have:=h.len;omega) hq W
   rw[hq]
   have RS:=fun W (h:CsAt W cb s z2)=>qzrp hm9 h
   have TK:=fun W (h:CsAt W cb s z2)=>qgtr k hm9 h
   have FL:=fun(x:Cs) W (h:CsAt W cb s x)=>qazj F h
   simp only
   generalize bs z2.r=T at *
   obtain⟨y3,hy3⟩:∃y3,z2.take k=y3:=⟨_,rfl⟩
   rw[hy3] at TK ⊢
   replace RD:=Lib.hid RD
   replace RS:=Lib.hid RS
   replace TK:=Lib.hid TK
   replace FL:=Lib.hid FL
   replace L2:=Lib.hid L2
   clear LF h hr hm hm9 hr2 hzz hz hy3 hq
   go_enter Tryz.func51,Tryz.ntmps51
   go_wp2_with fail
   refine(L1.out).mono ?_
   rintro e w2 ⟨rfl,n,rfl⟩
   have H2:=Lib.hid (H.out.draws n)
   clear L1
   go_wp2_with fail
   refine(NM.out _ H2.out.cs).mono ?_
   rintro e w3 ⟨rfl,hc,hg⟩
   have H3:=Lib.hid (H2.out.call hc hg)
   have n21:w3.cell? ⟨B,21,none⟩=some (.int .i64 0):=H3.out.cell 21
   have f21:=H3.out.fr 21
   have H4:=Lib.hid (H3.out.set 21 (.int .i64 (z1:Int)) (P':=pkB kind i z1 []) (a':=adZ) rfl H3.out.ps H3.out.pc H3.out.pf)
   clear hc hg H2
   go_wp2_with fail
   refine(L2.out _ H4.out.cs).mono ?_
   rintro e w4 ⟨rfl,n,rfl⟩
   have H5:=Lib.hid (H4.out.draws n)
   clear H4 H3 n21 f21
   go_upto_region 6 with fail
   refine qv1p (S:=fun x V=>CsS w cb s B z2 (pkB kind i z1 []) adZ V∧∀A c,x=some (A,c)→PL V A L∧L.length≤c∧∀g i,A=some ⟨g,i,none⟩→B < g) (n:=L.length) (k:=(k:Int)) (f:=(F:Int)) (t:=T) ⟨H5.out.draws 1,fun A c e=>by cases e⟩ (fun x V hS=>hS.1.cell 0)
    (fun x V hS=>(RS.out V hS.1.cs).mono fun e W' ⟨he,n,hn⟩=>⟨he,hn▸hS.1.draws n,fun A c e=>by
     obtain⟨p1,p2,p3⟩:=hS.2 A c e
     exact⟨hn▸p1.below (qnpu (Below.refl _ _) n),p2,p3⟩⟩)
    (fun x V hS=>(RD.out V hS.1.cs).mono fun e W' ⟨hb,A,c,he,hc,hP,_,_,hA⟩=>⟨A,c,he,hS.1.below hb,fun A' c' e=>by
     cases e
     exact⟨hP,hc,fun g i e=>Nat.lt_of_lt_of_le (lt_of_block hS.1.pk) (hA g i e)⟩⟩) ?_
   intro x V hx hS
   obtain⟨⟨A,c⟩,rfl⟩:=Option.isSome_iff_exists.1 hx
   obtain⟨p1,p2,p3⟩:=hS.2 A c rfl
   have H6:=Lib.hid hS.1
   have P6:=Lib.hid p1
   have Q6:=Lib.hid (And.intro p2 p3)
   have CB:=Lib.hid H6.out.ne
   have BB:=Lib.hid (show cb < B by have:=H6.out.lt;have:=H6.out.hB;omega)
   clear hx hS p1 p2 p3 H5
   go_wp2_with fail
   refine(TK.out _ H6.out.cs).mono ?_
   rintro e w7 ⟨rfl,hc,hg⟩
   have H7:=Lib.hid (H6.out.call hc hg)
   have P7:=Lib.hid (P6.out.grown hg (fun g i e=>by have:=Q6.out.2 g i e;have:=BB.out;omega))
   clear hc hg
   go_wp2_with fail
   refine(FL.out _ _ H7.out.cs).mono ?_
   rintro e w8 ⟨rfl,hc,hg⟩
   have H8:=Lib.hid (H7.out.call hc hg)
   have P8:=Lib.hid (P7.out.grown hg (fun g i e=>by have:=Q6.out.2 g i e;have:=BB.out;omega))
   have n24:w8.cell? ⟨B,24,none⟩=some (.slice none 0 0):=H8.out.cell 24
   have f24:=H8.out.fr 24
   have H9:=Lib.hid (H8.out.set 24 (.slice A L.length c) (P':=pkB kind i z1 L) (a':={adZ with ps:=A,pc:=c}) rfl P8.out Q6.out.1 Q6.out.2)
   clear hc hg
   go_wp2_with fail
   go_ret
   exact⟨rfl,_,H9.out⟩
end
end Go.Proofs.YthhdhagenmcbeaaGreat
namespace Go.Proofs.YthhdhagenmcbeaaGreat
theorem qoa7{kind:Int}{p:Pr}(h:qr4y kind p=0):PrOk p∧p.text.length≤65535∧p.value.length≤65535:=by
 obtain⟨hm,h4,h5⟩:=qo1o h
 obtain⟨_,h1,h2,_⟩:=qttn h
 obtain⟨r1,r2⟩:=qilb hm
 obtain⟨f0,f7,f1,f2,f3,f4,_⟩:=qznl hm
 have hn:p.n < 4294967296:=by
  by_cases hs:qwgc p.id≤4
  ·have h6:=(h4 hs).2.2.2
   have hs4:qwgc p.id=1∨qwgc p.id=2∨qwgc p.id=3∨qwgc p.id=4:=by omega
   rcases hs4 with e | e | e | e
   ·have:=f1 e;omega
   ·have:=f2 e;omega
   ·have:=f3 e;omega
   ·have:=f4 e;omega
  ·have:=(h5 (by omega)).1;omega
 exact⟨⟨by omega,by omega,hn,by omega,by omega⟩,h1,h2⟩
theorem qdz1(kind:Int)(s:List UInt8):(∀p∈(qflw kind s).1,PrOk p∧p.text.length≤65535∧p.value.length≤65535)∧(qflw kind s).1.length≤1000:=by
 by_cases h:(qflw kind s).2.2=0
 ·have hv:=(qugf (show qflw kind s=((qflw kind s).1,(qflw kind s).2.1,0) by rw[←h])).1
  obtain⟨h1,h2,_⟩:=(qgl5 _ _).1 hv
  exact⟨fun p hp=>qoa7 (h2.1 p hp),h1⟩
 ·rw[qjfk h]
  exact⟨fun p hp=>(nomatch hp),Nat.zero_le _⟩
end Go.Proofs.YthhdhagenmcbeaaGreat
namespace Go.Proofs.YthhdhagenmcbeaaGreat
open Go.RowKit
section
variable{w W W':World}{cb:Nat}{s:ByteArray}{y:Cs}{kind:Int}
theorem q6xm(x:Cs):(x.num 2).1 < 65536:=by
 unfold Cs.num
 have:=qn9h (x.take 2).1
 have hl:(x.take 2).1.length≤2:=by
  unfold Cs.take
  split
  ·simp
  ·split
   ·simp
   ·simp;omega
 have:256^(x.take 2).1.length≤256^2:=Nat.pow_le_pow_right (by decide) hl
 omega
theorem CsS.at_{B:Nat}{i c:Nat}{l:List Pr}{a:Ad}(h:CsS w cb s B y (pkB kind i c l) a W):PkAt W (pkB kind i c l) a:=
 ⟨fun e=>absurd rfl e,fun e=>absurd rfl e,fun e=>absurd rfl e,h.ps⟩
theorem q17y(v:Int)(y:Cs):(midB v kind y).1.2.2≤2:=by
 unfold midB qolc
 split
 ·split
  ·exact Nat.zero_le _
  ·split
   ·exact Nat.le_succ _
   ·exact Nat.le_refl _
 ·exact Nat.zero_le _
def q2i6(w:World)(cb:Nat)(R:Pk×Nat)(e:Ending)(W:World):Prop:=
 ∃a:Ad,e = .returned (.tuple #[.agg (pkC R.1 a),.int .i64 (R.2:Nat)])∧PL W a.ps R.1.props∧R.1.props.length≤a.pc∧(∀g i,a.ps=some ⟨g,i,none⟩→w.heap.size≤g)∧w.grownBy W (some cb)
theorem q8pc(v:Int)(hk0:-9223372036854775808≤kind)(hk1:kind≤9223372036854775807)(hm:s.size≤140737488351232)(h:CsAt w cb s y) :
 Calls Tryz.prog 23 #[.int .i64 v,.int .i64 kind,.pointer (some ⟨cb,0,none⟩)] w (q2i6 w cb ((qts0 v kind y).1,(qts0 v kind y).2.e)):=by
 have hm9:s.size≤9223372036854775807:=by omega
 have lt:=h.lt
 have h0:=h.alloc (.cells pkZ 35)
 have NM:=q8yf 2 (by decide) hm9 h0
 have hz:=q6xm y
 unfold qts0
 obtain⟨z,hzz⟩:∃z,y.num 2=z:=⟨_,rfl⟩
 rw[hzz] at NM hz ⊢
 obtain⟨z1,z2⟩:=z
 simp only at NM hz ⊢
 have hz0:(z1:Int) < 65536:=by omega
 have hw:IntKind.i64.wrap (z1:Int)=(z1:Int):=by rw[IntKind.wrap_i64];omega
 have TL:=fun B W (h:CsS w cb s B z2 (pkB kind z1 0 []) adZ W)=>qafx hk0 hk1 hm h
 have hlen:=q17y (kind:=kind) v z2
 have ER:=fun W (h:CsAt W cb s z2)=>q3gp h
 obtain⟨bb,hbb⟩:∃b,((v==5)&&((z2.e:Int)==0))=b:=⟨_,rfl⟩
 have hmid:midB v kind z2=if bb then qolc kind z2 else((0,[],0),z2):=by
  unfold midB
  rw[←hbb]
  by_cases h5:v=5<;>by_cases he:z2.e=0<;>simp[h5,he]
 have TL2:bb=true→∀B W,CsS w cb s B z2 (pkB kind z1 0 []) adZ W→Calls Tryz.prog 51 #[.pointer (some ⟨cb,0,none⟩),.pointer (some ⟨B,0,none⟩)] W fun e W'=>e = .returned (.int .i64 ((midB v kind z2).1.2.2:Nat))∧∃a',CsS w cb s B (midB v kind z2).2 (pkB kind z1 (midB v kind z2).1.1 (midB v kind z2).1.2.1) a' W':=fun hb B W h=>by
  rw[hmid,if_pos hb];exact TL B W h
 have TL3:bb=false→midB v kind z2=((0,[],0),z2):=fun hb=>by rw[hmid,if_neg (by rw[hb];decide)]
 clear TL hmid
 obtain⟨t,ht⟩:∃t,midB v kind z2=t:=⟨_,rfl⟩
 rw[ht] at hlen TL2 TL3 ⊢
 obtain⟨⟨c,l,n⟩,y3⟩:=t
 simp only at hlen TL2 ⊢
 have hn:n=0∨n=1∨n=2:=by omega
 have LF:=fun W (h:CsAt W cb s y3)=>qjtm hm9 h
 obtain⟨dd,hdd⟩:∃d,(decide ((0:Int) < ((y3.r.length:Nat):Int)) || decide ((necA (pkB kind z1 c l):Int) < (n:Int)))=d:=⟨_,rfl⟩
 have FL:=fun W (h:CsAt W cb s y3)=>qazj 5 h
 have hdY:(if y3.r≠[]∨necA (pkB kind z1 c l) < n then y3.fail 5 else y3)=if dd then y3.fail 5 else y3:=by
  rw[←hdd]
  have e:(y3.r≠[]∨necA (pkB kind z1 c l) < n)↔(decide ((0:Int) < ((y3.r.length:Nat):Int)) || decide ((necA (pkB kind z1 c l):Int) < (n:Int)))=true:=by
   rw[Bool.or_eq_true,decide_eq_true_eq,decide_eq_true_eq]
   rw[←List.length_pos_iff]
   omega
  simp only[e]
 rw[hdY]
 obtain⟨Y,hY⟩:∃Y,(if dd then y3.fail 5 else y3)=Y:=⟨_,rfl⟩
 rw[hY]
 have ER2:=fun W (h:CsAt W cb s Y)=>q3gp h
 have NE:=fun B a W (h:CsS w cb s B y3 (pkB kind z1 c l) a W)=>(q6c0 (pkB kind z1 c l) a W).mono fun e W' hh=>(⟨hh.1,h.below hh.2⟩:_∧CsS w cb s B y3 (pkB kind z1 c l) a W')
 have hnl:=qxhf (pkB kind z1 c l)
 obtain⟨D,hD⟩:∃D,pkC (pkB kind z1 0 []) adZ=D:=⟨_,rfl⟩
 have hD1:D.size=25:=by rw[←hD];exact qwmp _ _
 have hD2:D.all (·.oneCell')=true:=by rw[←hD];exact qmz0 _ _
 have HD:=Lib.hid hD
 have HD1:=Lib.hid hD1
 have HD2:=Lib.hid hD2
 have HZ:=Lib.hid qbwp
 have hzv:=qrai
 have hne:¬pkZ=#[]:=by intro h;have:=qbwp;rw[h] at this;cases this
 have RS0:=Lib.hid (heap_alloc_new w (.cells pkZ 35))
 have G0:=Lib.hid (World.grownBy_alloc w (.cells pkZ 35) (some cb))
 have LT:=Lib.hid lt
 replace TL3:=Lib.hid TL3
 have HB:=Lib.hid hbb
 have HN:=Lib.hid hn
 have HNL:=Lib.hid hnl
 have HY:=Lib.hid hY
 have HDD:=Lib.hid hdd
 replace NM:=Lib.hid NM
 replace TL2:=Lib.hid TL2
 replace ER:=Lib.hid ER
 replace LF:=Lib.hid LF
 replace FL:=Lib.hid FL
 replace ER2:=Lib.hid ER2
 replace NE:=Lib.hid NE
 clear hm hm9 h h0 lt hz hzz hbb hn hlen hnl hY hdd hdY ht hD hD1 hD2 hk0 hk1
 go_enter Tryz.func23,Tryz.ntmps23
 go_wp2_with fail
 refine(NM.out).mono ?_
 rintro e W1 ⟨rfl,hc,hg⟩
 have R1:=(hg.block _ (lt_of_block RS0.out) (fun e=>by have:=Option.some.inj e;have:=LT.out;omega)).trans RS0.out
 have S1:=Lib.hid (CsS.laid LT.out (qo6d G0.out hg) R1 hc HD.out rfl)
 clear hc hg R1 RS0 G0 NM
 go_upto_region 3 with (first
  | (refine wpList_buildTo rfl 35 _ rfl (some _) rfl D (by rw[←HD.out];kernel_rfl) ?_)
  | (refine wpList_store_row rfl _ _ _ rfl W1.heap.size D rfl rfl 35 _ (heap_alloc_new W1 _) (by rw[HD1.out];exact q5nr) (by rw[HZ.out,HD1.out]) HD2.out ?_))
 generalize W1.heap.size=B at *
 generalize (W1.alloc (.cells pkZ 35)).setRow _ D=W2 at *
 clear hzv hne
 go_cut [21] (fun s21 wx=>s21 = .bool bb∧CsS w cb s B z2 (pkB kind z1 0 []) adZ wx)
 case first=>
  by_cases h5:v=5
  ·subst h5
   obtain⟨b0,hb0⟩:∃b,((z2.e:Int)==0)=b:=⟨_,rfl⟩
   have HB1:=HB.out
   rw[hb0] at HB1
   have HB1:=Lib.hid HB1
   clear HB
   go_wp2_with fail
   refine(ER.out _ S1.out.cs).mono ?_
   rintro e W3 ⟨rfl,rfl⟩
   go_wp2_with fail
   go_meet
   exact⟨by rw[←HB1.out];rfl,S1.out⟩
  ·have h5':(v==5)=false:=beq_eq_false_iff_ne.2 h5
   have HB1:=HB.out
   rw[h5'] at HB1
   have HB1:=Lib.hid HB1
   clear HB h5
   go_wp2_with fail
   go_meet
   exact⟨by rw[←HB1.out];rfl,S1.out⟩
 case rest=>
  obtain⟨rfl,hS⟩:=hcut
  have S2:=Lib.hid hS
  clear hS S1 ER HB
  go_upto_if 21 with fail
  go_cut [9] (fun s9 wx=>s9 = .int .i64 (n:Int)∧∃a,CsS w cb s B y3 (pkB kind z1 c l) a wx)
  case first=>
   cases bb with
   | true=>
    have TL:=Lib.hid (TL2.out rfl)
    clear TL2 TL3
    go_wp2_with fail
    refine(TL.out _ _ S2.out).mono ?_
    rintro e W3 ⟨rfl,a,hS⟩
    have S3:=Lib.hid hS
    clear hS
    go_wp2_with fail
    go_meet
    exact⟨rfl,a,S3.out⟩
   | false=>
    have e:=TL3.out rfl
    simp only[Prod.mk.injEq] at e
    obtain⟨⟨rfl,rfl,rfl⟩,rfl⟩:=e
    clear TL2 TL3
    go_wp2_with fail
    go_meet
    exact⟨rfl,adZ,S2.out⟩
  case rest=>
   obtain⟨rfl,a,hS⟩:=hcut
   have S3:=Lib.hid hS
   clear hS S2 TL2 TL3
   have NEa:=Lib.hid (NE.out B a)
   have CX:=Lib.hid (qwmp (pkB kind z1 c l) a)
   go_upto_region 5 with fail
   go_cut [32] (fun s32 wx=>s32 = .bool dd∧CsS w cb s B y3 (pkB kind z1 c l) a wx)
   case first=>
    have LEN:=LF.out _ S3.out.cs
    obtain⟨m,hmm⟩:∃m:Int,((y3.r.length:Nat):Int)=m:=⟨_,rfl⟩
    have hm1:0≤m:=by omega
    have hd:=HDD.out
    rw[hmm] at LEN hd
    replace LEN:=Lib.hid LEN
    clear hmm HDD
    generalize necA (pkB kind z1 c l)=q at *
    by_cases hm0:0 < m
    ·have g1:decide ((0:Int) < m)=true:=decide_eq_true hm0
     rw[g1,Bool.true_or] at hd
     have HD3:=Lib.hid hd
     clear hd hm0 hm1
     go_wp2_with fail
     refine(LEN.out).mono ?_
     rintro e W4 ⟨rfl,k,rfl⟩
     have S4:=Lib.hid (S3.out.draws k)
     go_wp2_with fail
     go_meet
     exact⟨by rw[HD3.out],S4.out⟩
    ·obtain rfl:m=0:=by omega
     rw[show decide ((0:Int) < 0)=false from rfl,Bool.false_or] at hd
     have HD3:=Lib.hid hd
     clear hd hm0 hm1
     have hqn:decide (q < n)=decide ((q:Int) < (n:Int)):=by rw[decide_eq_decide];omega
     have HD4:=Lib.hid (hqn.trans HD3.out)
     clear hqn HD3
     have hn:=HN.out
     have hnl:=HNL.out
     go_wp2_with fail
     refine(LEN.out).mono ?_
     rintro e W4 ⟨rfl,k,rfl⟩
     have S4:=Lib.hid (S3.out.draws k)
     go_wp2_with (refine q2a5 rfl _ _ rfl B rfl 35 _ (0,0) _ S4.out.pk Tryz.underlying35 rfl (by rw[CX.out];exact q5nr) ?_)
     refine(NEa.out _ S4.out).mono ?_
     rintro e W5 ⟨rfl,hS⟩
     have S5:=Lib.hid hS
     clear hS
     go_wp2_with fail
     go_meet
     exact⟨congrArg Value.bool HD4.out,S5.out⟩
   case rest=>
    obtain⟨rfl,hS⟩:=hcut
    have S4:=Lib.hid hS
    clear hS S3 LF NE NEa HN HNL HDD
    go_upto_if 32 with fail
    go_cut [] (fun wx=>CsS w cb s B Y (pkB kind z1 c l) a wx)
    case first=>
     cases dd with
     | true=>
      go_wp2_with fail
      refine(FL.out _ S4.out.cs).mono ?_
      rintro e W5 ⟨rfl,hc,hg⟩
      have S5:=Lib.hid (S4.out.call hc hg)
      clear hc hg
      go_wp2_with fail
      go_meet
      rw[←HY.out]
      exact S5.out
     | false=>
      go_wp2_with fail
      go_meet
      rw[←HY.out]
      exact S4.out
    case rest=>
     have S5:=Lib.hid hcut
     clear hcut S4 FL
     have hx:=qwmp (pkB kind z1 c l) a
     have hy:=qmz0 (pkB kind z1 c l) a
     have RT:=Lib.hid (fun V (h:CsS w cb s B Y (pkB kind z1 c l) a V)=>(show q2i6 w cb (pkB kind z1 c l,Y.e) (.returned (.tuple #[.agg (pkC (pkB kind z1 c l) a),.int .i64 (Y.e:Nat)])) (V.setRow w.heap.size (pkC (pkB kind z1 c l) a)) from
      ⟨a,rfl,h.ps.kept (by simp[World.setRow]) (fun g i e _=>setRow_other V w.heap.size g _ (by have:=h.pf g i e;have:=h.hB;omega)),h.pc,fun g i e=>by have:=h.pf g i e;have:=h.hB;omega,
       ⟨h.g.os,h.g.tape,h.g.output,Nat.le_trans h.g.size (by simp[World.setRow]),fun k hk hne=>(setRow_other V w.heap.size k _ (by omega)).trans (h.g.block k hk hne)⟩⟩))
     have RS5:=Lib.hid (fun V (h:CsS w cb s B Y (pkB kind z1 c l) a V)=>setRow_heap V w.heap.size _ (pkC (pkB kind z1 c l) a) _ _ h.rs)
     obtain⟨C,hC⟩:∃C,pkC (pkB kind z1 c l) a=C:=⟨_,rfl⟩
     rw[hC] at hx hy RT RS5
     have HC1:=Lib.hid hx
     have HC2:=Lib.hid hy
     have HCC:=Lib.hid hC
     clear hx hy hC CX
     go_upto_region 7 with fail
     refine q55m (S:=CsS w cb s B Y (pkB kind z1 c l) a) (b:=w.heap.size) (B:=B) (cb:=cb) (f:=(Y.e:Nat)) (C:=C) (S5.out.draws 1) HC1.out HC2.out (by have:=S5.out.hB;omega) (fun V h=>by rw[←HCC.out];exact h.pk) (fun V h=>⟨_,h.rs,qbwp⟩) (fun V h=>ER2.out V h.cs) (fun V h=>ER2.out _ (h.cs.of_block (setRow_other V w.heap.size cb _ (by have:=h.lt;omega)))) ?_
     intro V h
     have G:=Lib.hid (RS5.out V h)
     have RTV:=Lib.hid (RT.out V h)
     clear h RT RS5
     go_wp2_with fail
     exact q8iy (cs:=C) rfl rfl rfl rfl Tryz.underlying35 rfl (by rw[HC1.out];exact q5nr) G.out RTV.out
end
def FitA(p:Pk):Prop:=PkOk p∧q21o p
theorem q0yw{kind:Int}{i c:Nat}{l:List Pr}(hk:-9223372036854775808≤kind∧kind≤9223372036854775807)(hl:(∀p∈l,PrOk p∧p.text.length≤65535∧p.value.length≤65535)∧l.length≤1000):FitA (pkB kind i c l):=by
 refine⟨⟨hk,by show _≤(0:Int)∧(0:Int)≤_;decide,fun t ht=>?_,fun x hx=>(nomatch hx),fun x hx=>?_,fun x hx=>(nomatch hx)⟩,Nat.zero_le _,Nat.zero_le _,Nat.le_trans hl.2 (by decide),Nat.zero_le _⟩
 ·have:t=[]:=by simpa [Pk.texts,Pk.zero,pkB] using ht
  rw[this];decide
 ·obtain⟨h1,h2,h3⟩:=hl.1 x hx
  exact⟨h1,by omega,by omega⟩
theorem qkys:FitA Pk.zero:=by
 have:=q0yw (kind:=0) (i:=0) (c:=0) (l:=[]) (by decide) ⟨fun p hp=>(nomatch hp),Nat.zero_le _⟩
 exact this
theorem q22l{v kind:Int}(hk:-9223372036854775808≤kind∧kind≤9223372036854775807)(y:Cs):FitA (qts0 v kind y).1:=by
 unfold qts0
 simp only
 refine q0yw hk ?_
 unfold midB qolc
 split
 ·split
  ·exact⟨fun p hp=>(nomatch hp),Nat.zero_le _⟩
  ·split
   ·exact⟨fun p hp=>(nomatch hp),Nat.zero_le _⟩
   ·exact qdz1 _ _
 ·exact⟨fun p hp=>(nomatch hp),Nat.zero_le _⟩
theorem qpbq(v kind:Int)(y:Cs):∃i c l,(qts0 v kind y).1=pkB kind i c l:=⟨_,_,_,rfl⟩
def qplq(w:World)(R:Pk×Nat)(e:Ending)(W:World):Prop:=
 ∃a:Ad,e = .returned (.tuple #[.agg (pkC R.1 a),.int .i64 (R.2:Nat)])∧PkAt W R.1 a∧R.1.props.length≤a.pc∧FitA R.1∧Below w.heap.size w W∧(R.2≠0→a=adZ)
structure KrS(w:World)(B:Nat)(P:Pk)(a:Ad)(W:World):Prop where
 low:Below w.heap.size w W
 rs:W.heap[w.heap.size]? = some (.cells pkZ 35 (0,0))
 hB:w.heap.size < B
 pk:W.heap[B]? = some (.cells (pkC P a) 35 (0,0))
 at_:PkAt W P a
 pf:∀g i,a.ps=some ⟨g,i,none⟩→w.heap.size < g
theorem KrS.call{w W W':World}{B:Nat}{P:Pk}{a:Ad}(h:KrS w B P a W)(hb:Below W.heap.size W W'):KrS w B P a W':=
 ⟨qxh2 h.low hb,(hb.block _ (lt_of_block h.rs)).trans h.rs,h.hB,(hb.block _ (lt_of_block h.pk)).trans h.pk,h.at_.below hb,h.pf⟩
theorem qbjs(v kind:Int)(s:ByteArray)(w:World)(hk0:-9223372036854775808≤kind)(hk1:kind≤9223372036854775807)(hm:s.size≤140737488351232) :
 Calls Tryz.prog 8 #[.int .i64 v,.int .i64 kind,.string s] w (qplq w (q9uf v kind s.data.toList)):=by
 have KN:=qnzz v kind
 have HZ:=Lib.hid qbwp
 have hzv:=qrai
 have hne:¬pkZ=#[]:=by intro h;have:=qbwp;rw[h] at this;cases this
 have PZ:Hid (pkZ.all (·.oneCell')=true):=Lib.hid (qmz0 Pk.zero adZ)
 have R0:=Lib.hid (heap_alloc_new w (.cells pkZ 35))
 have L0:=Lib.hid (qybm (w:=w) (.cells pkZ 35))
 have RZ:=Lib.hid (fun(e:Nat) W (hb:Below w.heap.size w W)=>(show qplq w (Pk.zero,e) (.returned (.tuple #[.agg pkZ,.int .i64 (e:Nat)])) (W.setRow w.heap.size pkZ) from⟨adZ,rfl,qa3p _,Nat.zero_le _,qkys,q8xz hb (Nat.le_refl _) _,fun _=>rfl⟩))
 rw[q96o]
 by_cases hk:(versC v&&qvya kind)=false
 ·rw[if_pos hk]
  rw[hk] at KN
  have KN:=Lib.hid KN
  clear hk
  go_enter Tryz.func8,Tryz.ntmps8
  go_wp2_with fail
  refine(KN.out _).mono ?_
  rintro e W ⟨rfl,rfl⟩
  go_wp2_with (first
   | (refine wpList_buildTo rfl 35 _ rfl (some _) rfl pkZ (by kernel_rfl) ?_)
   | (refine wpList_store_row rfl _ _ _ rfl w.heap.size pkZ rfl rfl 35 _ R0.out (by rw[HZ.out];exact q5nr) rfl PZ.out ?_))
  refine q8iy (cs:=pkZ) rfl rfl rfl rfl Tryz.underlying35 rfl (by rw[HZ.out];exact q5nr) (setRow_heap _ _ _ _ _ _ R0.out) ?_
  exact RZ.out 2 _ L0.out
 ·rw[if_neg hk]
  rw[Bool.not_eq_false] at hk
  rw[hk] at KN
  have KN:=Lib.hid KN
  have RD:=fun cb W (h:CsAt W cb s ⟨s.data.toList,0⟩)=>q8pc v hk0 hk1 hm h
  have FI:=q22l (v:=v) ⟨hk0,hk1⟩ ⟨s.data.toList,0⟩
  obtain⟨pi,pc,pl,hpl⟩:=qpbq v kind ⟨s.data.toList,0⟩
  obtain⟨z,hz⟩:∃z,qts0 v kind ⟨s.data.toList,0⟩=z:=⟨_,rfl⟩
  rw[hz] at RD FI hpl ⊢
  obtain⟨P,Y⟩:=z
  simp only at RD FI hpl ⊢
  have PT:∀W a,PL W a.ps P.props→PkAt W P a:=fun W a h=>by
   subst hpl
   exact⟨fun e=>absurd rfl e,fun e=>absurd rfl e,fun e=>absurd rfl e,h⟩
  obtain⟨f,hf⟩:∃f,Y.e=f:=⟨_,rfl⟩
  rw[hf] at RD ⊢
  have VA:=fun a W (h:PkAt W P a) (hc:P.props.length≤a.pc)=>qat7 v P a W h FI.2 FI.1 hc
  generalize qryp v P=q at *
  obtain⟨R,hR⟩:∃R,(if (if f=0 then q else f)≠0 then(Pk.zero,(if f=0 then q else f)) else(P,0))=R:=⟨_,rfl⟩
  rw[hR]
  have HR:=Lib.hid hR
  have HFI:=Lib.hid FI
  replace RD:=Lib.hid RD
  replace PT:=Lib.hid PT
  replace VA:=Lib.hid VA
  clear hk hz hpl hf hR FI hm
  have ZW:=Lib.hid (show(w.alloc (.cells pkZ 35)).heap.size=w.heap.size+1 by simp)
  go_enter Tryz.func8,Tryz.ntmps8
  go_wp2_with fail
  refine(KN.out _).mono ?_
  rintro e W ⟨rfl,rfl⟩
  generalize w.alloc (.cells pkZ 35)=W0 at *
  go_wp2_with fail
  refine(q2gu s _).mono ?_
  rintro e W1 ⟨rfl,hc,hb1,hz1⟩
  have C1:=(show CsAt W1 W0.heap.size s ⟨s.data.toList,0⟩ from⟨0,Nat.zero_le _,hc,by simp⟩)
  replace C1:=Lib.hid C1
  have L1:=Lib.hid (qxh2 L0.out hb1)
  have R1:=Lib.hid ((hb1.block _ (lt_of_block R0.out)).trans R0.out)
  have Z1:=Lib.hid (show W1.heap.size=w.heap.size+2 by rw[hz1,ZW.out])
  clear hc hb1 hz1
  go_wp2_with fail
  refine(RD.out _ _ C1.out).mono ?_
  rintro e W2 ⟨a,rfl,p1,p2,p3,hg⟩
  have L2:=L1.out.grown hg L1.out.size (fun k e=>by have:=Option.some.inj e;have:=ZW.out;omega)
  have R2:=(hg.block _ (lt_of_block R1.out) (fun e=>by have:=Option.some.inj e;have:=ZW.out;omega)).trans R1.out
  have hbx:Below W2.heap.size W2 ((W2.alloc (.cells pkZ 35)).setRow W2.heap.size (pkC P a)):=q8xz (qybm (w:=W2) (.cells pkZ 35)) (Nat.le_refl _) (pkC P a)
  have S3:KrS w W2.heap.size P a ((W2.alloc (.cells pkZ 35)).setRow W2.heap.size (pkC P a)):=
   ⟨qxh2 L2 hbx,(hbx.block _ (lt_of_block R2)).trans R2,by have:=hg.size;have:=Z1.out;omega,setRow_heap _ _ _ _ _ _ (heap_alloc_new W2 _),PT.out _ a (p1.below hbx),fun g i e=>by have:=p3 g i e;have:=Z1.out;omega⟩
  have S3:=Lib.hid S3
  have CP:=Lib.hid p2
  have hD1:=qwmp P a
  have hD2:=qmz0 P a
  obtain⟨D,hD⟩:∃D,pkC P a=D:=⟨_,rfl⟩
  rw[hD] at hD1 hD2 S3 ⊢
  have HD:=Lib.hid hD
  have HD1:=Lib.hid hD1
  have HD2:=Lib.hid hD2
  have PKD:=Lib.hid (fun V (h:KrS w W2.heap.size P a V)=>(by rw[←hD];exact h.pk:V.heap[W2.heap.size]? = some (.cells D 35 (0,0))))
  have VAa:=VA.out a
  have VAa:=fun V (h:KrS w W2.heap.size P a V)=>(VAa V h.at_ CP.out).mono fun e W' hh=>(⟨hh.1,h.call hh.2⟩:_∧KrS w W2.heap.size P a W')
  rw[hD] at VAa
  have VAa:=Lib.hid VAa
  have FINT:=Lib.hid (fun V (h:KrS w W2.heap.size P a V)=>(show qplq w (P,0) (.returned (.tuple #[.agg D,.int .i64 ((0:Nat):Int)])) (V.setRow w.heap.size D) from
   ⟨a,by rw[hD],PT.out _ a (h.at_.ps.kept (by simp[World.setRow]) (fun g i e _=>setRow_other V w.heap.size g _ (by have:=h.pf g i e;omega))),CP.out,HFI.out,q8xz h.low (Nat.le_refl _) _,fun h=>absurd rfl h⟩))
  clear p1 p2 p3 hg L2 R2 hbx hD1 hD2 hD VA PT RD
  by_cases hf0:f=0
  ·subst hf0
   by_cases hq:q=0
   ·subst hq
    have hr:R=(P,0):=by rw[←HR.out];simp
    subst hr
    go_wp2_with (first
     | (refine wpList_store_row rfl _ _ _ rfl W2.heap.size D rfl rfl 35 _ (heap_alloc_new W2 _) (by rw[HD1.out];exact q5nr) (by rw[HZ.out,HD1.out]) HD2.out ?_)
     | (refine wpList_load_row rfl _ _ rfl W2.heap.size rfl 35 D (0,0) _ (PKD.out _ S3.out) Tryz.underlying35 rfl (by rw[HD1.out];exact q5nr) ?_))
    refine(VAa.out _ S3.out).mono ?_
    rintro e W4 ⟨rfl,hS⟩
    have S4:=Lib.hid hS
    have RS4:=Lib.hid hS.rs
    clear hS
    go_wp2_with (first
     | (refine wpList_store_row rfl _ _ _ rfl w.heap.size D rfl rfl 35 _ RS4.out (by rw[HD1.out];exact q5nr) (by rw[HZ.out,HD1.out]) HD2.out ?_)
     | (refine wpList_load_row rfl _ _ rfl W2.heap.size rfl 35 D (0,0) _ (PKD.out _ S4.out) Tryz.underlying35 rfl (by rw[HD1.out];exact q5nr) ?_))
    exact q8iy (cs:=D) rfl rfl rfl rfl Tryz.underlying35 rfl (by rw[HD1.out];exact q5nr) (setRow_heap _ _ _ _ _ _ RS4.out) (FINT.out _ S4.out)
   ·have hr:R=(Pk.zero,q):=by rw[←HR.out];simp[hq]
    subst hr
    have q1:((q:Int)==0)=false:=by simp;omega
    have q2:((q:Int) != 0)=true:=by simp;omega
    clear hq
    go_wp2_with (first
     | (refine wpList_store_row rfl _ _ _ rfl W2.heap.size D rfl rfl 35 _ (heap_alloc_new W2 _) (by rw[HD1.out];exact q5nr) (by rw[HZ.out,HD1.out]) HD2.out ?_)
     | (refine wpList_load_row rfl _ _ rfl W2.heap.size rfl 35 D (0,0) _ (PKD.out _ S3.out) Tryz.underlying35 rfl (by rw[HD1.out];exact q5nr) ?_))
    refine(VAa.out _ S3.out).mono ?_
    rintro e W4 ⟨rfl,hS⟩
    have RS4:=Lib.hid hS.rs
    have RT:=Lib.hid (RZ.out q W4 hS.low)
    clear hS
    go_wp2_with (first
     | (refine wpList_buildTo rfl 35 _ rfl (some _) rfl pkZ (by kernel_rfl) ?_)
     | (refine wpList_store_row rfl _ _ _ rfl w.heap.size pkZ rfl rfl 35 _ RS4.out (by rw[HZ.out];exact q5nr) rfl PZ.out ?_))
    exact q8iy (cs:=pkZ) rfl rfl rfl rfl Tryz.underlying35 rfl (by rw[HZ.out];exact q5nr) (setRow_heap _ _ _ _ _ _ RS4.out) RT.out
  ·have hr:R=(Pk.zero,f):=by rw[←HR.out];simp[hf0]
   subst hr
   have q1:((f:Int)==0)=false:=by simp;omega
   have q2:((f:Int) != 0)=true:=by simp;omega
   have RS4:=Lib.hid S3.out.rs
   have RT:=Lib.hid (RZ.out f _ S3.out.low)
   clear hf0
   go_wp2_with (first
    | (refine wpList_store_row rfl _ _ _ rfl W2.heap.size D rfl rfl 35 _ (heap_alloc_new W2 _) (by rw[HD1.out];exact q5nr) (by rw[HZ.out,HD1.out]) HD2.out ?_)
    | (refine wpList_buildTo rfl 35 _ rfl (some _) rfl pkZ (by kernel_rfl) ?_)
    | (refine wpList_store_row rfl _ _ _ rfl w.heap.size pkZ rfl rfl 35 _ RS4.out (by rw[HZ.out];exact q5nr) rfl PZ.out ?_))
   exact q8iy (cs:=pkZ) rfl rfl rfl rfl Tryz.underlying35 rfl (by rw[HZ.out];exact q5nr) (setRow_heap _ _ _ _ _ _ RS4.out) RT.out
section
variable{id n:Int}{st sv:ByteArray}
theorem q0sc(LK:∀W,Calls Tryz.prog 121 #[.int .i64 id] W fun e w'=>∃A m x y,e = .returned (.agg #[.int .i64 1,.slice A m m,.int .u32 x,.int .u32 y])∧Below W.heap.size W w')(hw:IntKind.u64.wrap n=n){R:ByteArray}(PU:∀W,Calls Tryz.prog 35 #[.int .u64 n,.int .i64 1] W fun e w'=>e = .returned (.string R)∧Below W.heap.size W w')(w:World) :
 Calls Tryz.prog 126 #[.agg #[.int .i64 id,.int .u32 n,.string st,.string sv]] w fun e w'=>e = .returned (.string R)∧Below w.heap.size w w':=by
 have hb0:=heap_alloc_new w (.cells #[.int .i64 id,.int .u32 n,.string st,.string sv] 25)
 have hB0:Below w.heap.size w (w.alloc (.cells #[.int .i64 id,.int .u32 n,.string st,.string sv] 25)):=(Below.refl _ _).alloc (Nat.le_refl _) _
 have LK:=Lib.hid LK
 have PU:=Lib.hid PU
 have P0:=Lib.hid hb0
 have B0:=Lib.hid hB0
 have c0:=cell_of_row _ w.heap.size 0 _ _ _ hb0
 clear hb0 hB0
 go_enter Tryz.func126,Tryz.ntmps126
 go_wp2_with fail
 refine(LK.out _).mono ?_
 rintro e w1 ⟨A,m,x,y,rfl,hb⟩
 have P:=Lib.hid ((hb.block w.heap.size (by rw[World.size_alloc];omega)).trans P0.out)
 have B:=Lib.hid (B0.out.trans (hb.mono B0.out.size))
 have F0:=qkrp 1 A m m x y
 clear hb c0
 have c0:=cell_of_row _ w.heap.size 0 _ _ _ P.out
 have c1:=cell_of_row _ w.heap.size 1 _ _ _ P.out
 have c2:=cell_of_row _ w.heap.size 2 _ _ _ P.out
 have c3:=cell_of_row _ w.heap.size 3 _ _ _ P.out
 go_wp2_with fail
 refine(PU.out _).mono ?_
 rintro e w2 ⟨rfl,hb⟩
 have P:=Lib.hid ((hb.block w.heap.size (lt_of_block P.out)).trans P.out)
 have B:=Lib.hid (B.out.trans (hb.mono B.out.size))
 clear hb c0 c1 c2 c3
 have c0:=cell_of_row _ w.heap.size 0 _ _ _ P.out
 have c1:=cell_of_row _ w.heap.size 1 _ _ _ P.out
 have c2:=cell_of_row _ w.heap.size 2 _ _ _ P.out
 have c3:=cell_of_row _ w.heap.size 3 _ _ _ P.out
 go_wp2_with fail
 go_ret
 exact⟨rfl,B.out⟩
theorem qqo9(LK:∀W,Calls Tryz.prog 121 #[.int .i64 id] W fun e w'=>∃A m x y,e = .returned (.agg #[.int .i64 2,.slice A m m,.int .u32 x,.int .u32 y])∧Below W.heap.size W w')(hw:IntKind.u64.wrap n=n){R:ByteArray}(PU:∀W,Calls Tryz.prog 35 #[.int .u64 n,.int .i64 2] W fun e w'=>e = .returned (.string R)∧Below W.heap.size W w')(w:World) :
 Calls Tryz.prog 126 #[.agg #[.int .i64 id,.int .u32 n,.string st,.string sv]] w fun e w'=>e = .returned (.string R)∧Below w.heap.size w w':=by
 have hb0:=heap_alloc_new w (.cells #[.int .i64 id,.int .u32 n,.string st,.string sv] 25)
 have hB0:Below w.heap.size w (w.alloc (.cells #[.int .i64 id,.int .u32 n,.string st,.string sv] 25)):=(Below.refl _ _).alloc (Nat.le_refl _) _
 have LK:=Lib.hid LK
 have PU:=Lib.hid PU
 have P0:=Lib.hid hb0
 have B0:=Lib.hid hB0
 have c0:=cell_of_row _ w.heap.size 0 _ _ _ hb0
 clear hb0 hB0
 go_enter Tryz.func126,Tryz.ntmps126
 go_wp2_with fail
 refine(LK.out _).mono ?_
 rintro e w1 ⟨A,m,x,y,rfl,hb⟩
 have P:=Lib.hid ((hb.block w.heap.size (by rw[World.size_alloc];omega)).trans P0.out)
 have B:=Lib.hid (B0.out.trans (hb.mono B0.out.size))
 have F0:=qkrp 2 A m m x y
 clear hb c0
 have c0:=cell_of_row _ w.heap.size 0 _ _ _ P.out
 have c1:=cell_of_row _ w.heap.size 1 _ _ _ P.out
 have c2:=cell_of_row _ w.heap.size 2 _ _ _ P.out
 have c3:=cell_of_row _ w.heap.size 3 _ _ _ P.out
 go_wp2_with fail
 refine(PU.out _).mono ?_
 rintro e w2 ⟨rfl,hb⟩
 have P:=Lib.hid ((hb.block w.heap.size (lt_of_block P.out)).trans P.out)
 have B:=Lib.hid (B.out.trans (hb.mono B.out.size))
 clear hb c0 c1 c2 c3
 have c0:=cell_of_row _ w.heap.size 0 _ _ _ P.out
 have c1:=cell_of_row _ w.heap.size 1 _ _ _ P.out
 have c2:=cell_of_row _ w.heap.size 2 _ _ _ P.out
 have c3:=cell_of_row _ w.heap.size 3 _ _ _ P.out
 go_wp2_with fail
 go_ret
 exact⟨rfl,B.out⟩
theorem qwbv(LK:∀W,Calls Tryz.prog 121 #[.int .i64 id] W fun e w'=>∃A m x y,e = .returned (.agg #[.int .i64 3,.slice A m m,.int .u32 x,.int .u32 y])∧Below W.heap.size W w')(hw:IntKind.u64.wrap n=n){R:ByteArray}(PU:∀W,Calls Tryz.prog 35 #[.int .u64 n,.int .i64 4] W fun e w'=>e = .returned (.string R)∧Below W.heap.size W w')(w:World) :
 Calls Tryz.prog 126 #[.agg #[.int .i64 id,.int .u32 n,.string st,.string sv]] w fun e w'=>e = .returned (.string R)∧Below w.heap.size w w':=by
 have hb0:=heap_alloc_new w (.cells #[.int .i64 id,.int .u32 n,.string st,.string sv] 25)
 have hB0:Below w.heap.size w (w.alloc (.cells #[.int .i64 id,.int .u32 n,.string st,.string sv] 25)):=(Below.refl _ _).alloc (Nat.le_refl _) _
 have LK:=Lib.hid LK
 have PU:=Lib.hid PU
 have P0:=Lib.hid hb0
 have B0:=Lib.hid hB0
 have c0:=cell_of_row _ w.heap.size 0 _ _ _ hb0
 clear hb0 hB0
 go_enter Tryz.func126,Tryz.ntmps126
 go_wp2_with fail
 refine(LK.out _).mono ?_
 rintro e w1 ⟨A,m,x,y,rfl,hb⟩
 have P:=Lib.hid ((hb.block w.heap.size (by rw[World.size_alloc];omega)).trans P0.out)
 have B:=Lib.hid (B0.out.trans (hb.mono B0.out.size))
 have F0:=qkrp 3 A m m x y
 clear hb c0
 have c0:=cell_of_row _ w.heap.size 0 _ _ _ P.out
 have c1:=cell_of_row _ w.heap.size 1 _ _ _ P.out
 have c2:=cell_of_row _ w.heap.size 2 _ _ _ P.out
 have c3:=cell_of_row _ w.heap.size 3 _ _ _ P.out
 go_wp2_with fail
 refine(PU.out _).mono ?_
 rintro e w2 ⟨rfl,hb⟩
 have P:=Lib.hid ((hb.block w.heap.size (lt_of_block P.out)).trans P.out)
 have B:=Lib.hid (B.out.trans (hb.mono B.out.size))
 clear hb c0 c1 c2 c3
 have c0:=cell_of_row _ w.heap.size 0 _ _ _ P.out
 have c1:=cell_of_row _ w.heap.size 1 _ _ _ P.out
 have c2:=cell_of_row _ w.heap.size 2 _ _ _ P.out
 have c3:=cell_of_row _ w.heap.size 3 _ _ _ P.out
 go_wp2_with fail
 go_ret
 exact⟨rfl,B.out⟩
theorem qbt6(LK:∀W,Calls Tryz.prog 121 #[.int .i64 id] W fun e w'=>∃A m x y,e = .returned (.agg #[.int .i64 4,.slice A m m,.int .u32 x,.int .u32 y])∧Below W.heap.size W w')(hw:IntKind.i64.wrap n=n){R:ByteArray}{z:Int}(PU:∀W,Calls Tryz.prog 116 #[.int .i64 n] W fun e w'=>e = .returned (.tuple #[.string R,.int .i64 z])∧Below W.heap.size W w')(w:World) :
 Calls Tryz.prog 126 #[.agg #[.int .i64 id,.int .u32 n,.string st,.string sv]] w fun e w'=>e = .returned (.string R)∧Below w.heap.size w w':=by
 have hb0:=heap_alloc_new w (.cells #[.int .i64 id,.int .u32 n,.string st,.string sv] 25)
 have hB0:Below w.heap.size w (w.alloc (.cells #[.int .i64 id,.int .u32 n,.string st,.string sv] 25)):=(Below.refl _ _).alloc (Nat.le_refl _) _
 have LK:=Lib.hid LK
 have PU:=Lib.hid PU
 have P0:=Lib.hid hb0
 have B0:=Lib.hid hB0
 have c0:=cell_of_row _ w.heap.size 0 _ _ _ hb0
 clear hb0 hB0
 go_enter Tryz.func126,Tryz.ntmps126
 go_wp2_with fail
 refine(LK.out _).mono ?_
 rintro e w1 ⟨A,m,x,y,rfl,hb⟩
 have P:=Lib.hid ((hb.block w.heap.size (by rw[World.size_alloc];omega)).trans P0.out)
 have B:=Lib.hid (B0.out.trans (hb.mono B0.out.size))
 have F0:=qkrp 4 A m m x y
 clear hb c0
 have c0:=cell_of_row _ w.heap.size 0 _ _ _ P.out
 have c1:=cell_of_row _ w.heap.size 1 _ _ _ P.out
 have c2:=cell_of_row _ w.heap.size 2 _ _ _ P.out
 have c3:=cell_of_row _ w.heap.size 3 _ _ _ P.out
 go_wp2_with fail
 refine(PU.out _).mono ?_
 rintro e w2 ⟨rfl,hb⟩
 have P:=Lib.hid ((hb.block w.heap.size (lt_of_block P.out)).trans P.out)
 have B:=Lib.hid (B.out.trans (hb.mono B.out.size))
 clear hb c0 c1 c2 c3
 have c0:=cell_of_row _ w.heap.size 0 _ _ _ P.out
 have c1:=cell_of_row _ w.heap.size 1 _ _ _ P.out
 have c2:=cell_of_row _ w.heap.size 2 _ _ _ P.out
 have c3:=cell_of_row _ w.heap.size 3 _ _ _ P.out
 go_wp2_with fail
 go_ret
 exact⟨rfl,B.out⟩
theorem q9o4(LK:∀W,Calls Tryz.prog 121 #[.int .i64 id] W fun e w'=>∃A m x y,e = .returned (.agg #[.int .i64 5,.slice A m m,.int .u32 x,.int .u32 y])∧Below W.heap.size W w'){R:ByteArray}{z:Int}(BT:∀W,Calls Tryz.prog 148 #[.string st] W fun e w'=>e = .returned (.tuple #[.string R,.int .i64 z])∧Below W.heap.size W w')(w:World) :
 Calls Tryz.prog 126 #[.agg #[.int .i64 id,.int .u32 n,.string st,.string sv]] w fun e w'=>e = .returned (.string R)∧Below w.heap.size w w':=by
 have hb0:=heap_alloc_new w (.cells #[.int .i64 id,.int .u32 n,.string st,.string sv] 25)
 have hB0:Below w.heap.size w (w.alloc (.cells #[.int .i64 id,.int .u32 n,.string st,.string sv] 25)):=(Below.refl _ _).alloc (Nat.le_refl _) _
 have LK:=Lib.hid LK
 have BT:=Lib.hid BT
 have P0:=Lib.hid hb0
 have B0:=Lib.hid hB0
 have c0:=cell_of_row _ w.heap.size 0 _ _ _ hb0
 clear hb0 hB0
 go_enter Tryz.func126,Tryz.ntmps126
 go_wp2_with fail
 refine(LK.out _).mono ?_
 rintro e w1 ⟨A,m,x,y,rfl,hb⟩
 have P:=Lib.hid ((hb.block w.heap.size (by rw[World.size_alloc];omega)).trans P0.out)
 have B:=Lib.hid (B0.out.trans (hb.mono B0.out.size))
 have F0:=qkrp 5 A m m x y
 clear hb c0
 have c0:=cell_of_row _ w.heap.size 0 _ _ _ P.out
 have c1:=cell_of_row _ w.heap.size 1 _ _ _ P.out
 have c2:=cell_of_row _ w.heap.size 2 _ _ _ P.out
 have c3:=cell_of_row _ w.heap.size 3 _ _ _ P.out
 go_wp2_with fail
 refine(BT.out _).mono ?_
 rintro e w2 ⟨rfl,hb⟩
 have P:=Lib.hid ((hb.block w.heap.size (lt_of_block P.out)).trans P.out)
 have B:=Lib.hid (B.out.trans (hb.mono B.out.size))
 clear hb c0 c1 c2 c3
 have c0:=cell_of_row _ w.heap.size 0 _ _ _ P.out
 have c1:=cell_of_row _ w.heap.size 1 _ _ _ P.out
 have c2:=cell_of_row _ w.heap.size 2 _ _ _ P.out
 have c3:=cell_of_row _ w.heap.size 3 _ _ _ P.out
 go_wp2_with fail
 refine(LK.out _).mono ?_
 rintro e w3 ⟨A,m,x,y,rfl,hb⟩
 have F0:=qkrp 5 A m m x y
 have P:=Lib.hid ((hb.block w.heap.size (lt_of_block P.out)).trans P.out)
 have B:=Lib.hid (B.out.trans (hb.mono B.out.size))
 clear hb c0 c1 c2 c3
 have c0:=cell_of_row _ w.heap.size 0 _ _ _ P.out
 have c1:=cell_of_row _ w.heap.size 1 _ _ _ P.out
 have c2:=cell_of_row _ w.heap.size 2 _ _ _ P.out
 have c3:=cell_of_row _ w.heap.size 3 _ _ _ P.out
 go_wp2_with fail
 go_ret
 exact⟨rfl,B.out⟩
theorem qfll(LK:∀W,Calls Tryz.prog 121 #[.int .i64 id] W fun e w'=>∃A m x y,e = .returned (.agg #[.int .i64 6,.slice A m m,.int .u32 x,.int .u32 y])∧Below W.heap.size W w'){R:ByteArray}{z:Int}(BT:∀W,Calls Tryz.prog 148 #[.string st] W fun e w'=>e = .returned (.tuple #[.string R,.int .i64 z])∧Below W.heap.size W w')(w:World) :
 Calls Tryz.prog 126 #[.agg #[.int .i64 id,.int .u32 n,.string st,.string sv]] w fun e w'=>e = .returned (.string R)∧Below w.heap.size w w':=by
 have hb0:=heap_alloc_new w (.cells #[.int .i64 id,.int .u32 n,.string st,.string sv] 25)
 have hB0:Below w.heap.size w (w.alloc (.cells #[.int .i64 id,.int .u32 n,.string st,.string sv] 25)):=(Below.refl _ _).alloc (Nat.le_refl _) _
 have LK:=Lib.hid LK
 have BT:=Lib.hid BT
 have P0:=Lib.hid hb0
 have B0:=Lib.hid hB0
 have c0:=cell_of_row _ w.heap.size 0 _ _ _ hb0
 clear hb0 hB0
 go_enter Tryz.func126,Tryz.ntmps126
 go_wp2_with fail
 refine(LK.out _).mono ?_
 rintro e w1 ⟨A,m,x,y,rfl,hb⟩
 have P:=Lib.hid ((hb.block w.heap.size (by rw[World.size_alloc];omega)).trans P0.out)
 have B:=Lib.hid (B0.out.trans (hb.mono B0.out.size))
 have F0:=qkrp 6 A m m x y
 clear hb c0
 have c0:=cell_of_row _ w.heap.size 0 _ _ _ P.out
 have c1:=cell_of_row _ w.heap.size 1 _ _ _ P.out
 have c2:=cell_of_row _ w.heap.size 2 _ _ _ P.out
 have c3:=cell_of_row _ w.heap.size 3 _ _ _ P.out
 go_wp2_with fail
 refine(BT.out _).mono ?_
 rintro e w2 ⟨rfl,hb⟩
 have P:=Lib.hid ((hb.block w.heap.size (lt_of_block P.out)).trans P.out)
 have B:=Lib.hid (B.out.trans (hb.mono B.out.size))
 clear hb c0 c1 c2 c3
 have c0:=cell_of_row _ w.heap.size 0 _ _ _ P.out
 have c1:=cell_of_row _ w.heap.size 1 _ _ _ P.out
 have c2:=cell_of_row _ w.heap.size 2 _ _ _ P.out
 have c3:=cell_of_row _ w.heap.size 3 _ _ _ P.out
 go_wp2_with fail
 refine(LK.out _).mono ?_
 rintro e w3 ⟨A,m,x,y,rfl,hb⟩
 have F0:=qkrp 6 A m m x y
 have P:=Lib.hid ((hb.block w.heap.size (lt_of_block P.out)).trans P.out)
 have B:=Lib.hid (B.out.trans (hb.mono B.out.size))
 clear hb c0 c1 c2 c3
 have c0:=cell_of_row _ w.heap.size 0 _ _ _ P.out
 have c1:=cell_of_row _ w.heap.size 1 _ _ _ P.out
 have c2:=cell_of_row _ w.heap.size 2 _ _ _ P.out
 have c3:=cell_of_row _ w.heap.size 3 _ _ _ P.out
 go_wp2_with fail
 go_ret
 exact⟨rfl,B.out⟩
theorem q5gg(LK:∀W,Calls Tryz.prog 121 #[.int .i64 id] W fun e w'=>∃A m x y,e = .returned (.agg #[.int .i64 7,.slice A m m,.int .u32 x,.int .u32 y])∧Below W.heap.size W w'){R:ByteArray}{z:Int}(BT:∀W,Calls Tryz.prog 148 #[.string st] W fun e w'=>e = .returned (.tuple #[.string R,.int .i64 z])∧Below W.heap.size W w'){R2:ByteArray}{z2:Int}(BV:∀W,Calls Tryz.prog 148 #[.string sv] W fun e w'=>e = .returned (.tuple #[.string R2,.int .i64 z2])∧Below W.heap.size W w')(hnl:¬9223372036854775807 < R.size+R2.size)(w:World) :
 Calls Tryz.prog 126 #[.agg #[.int .i64 id,.int .u32 n,.string st,.string sv]] w fun e w'=>e = .returned (.string (R++R2))∧Below w.heap.size w w':=by
 have hb0:=heap_alloc_new w (.cells #[.int .i64 id,.int .u32 n,.string st,.string sv] 25)
 have hB0:Below w.heap.size w (w.alloc (.cells #[.int .i64 id,.int .u32 n,.string st,.string sv] 25)):=(Below.refl _ _).alloc (Nat.le_refl _) _
 have LK:=Lib.hid LK
 have BT:=Lib.hid BT
 have BV:=Lib.hid BV
 have P0:=Lib.hid hb0
 have B0:=Lib.hid hB0
 have c0:=cell_of_row _ w.heap.size 0 _ _ _ hb0
 clear hb0 hB0
 go_enter Tryz.func126,Tryz.ntmps126
 go_wp2_with fail
 refine(LK.out _).mono ?_
 rintro e w1 ⟨A,m,x,y,rfl,hb⟩
 have P:=Lib.hid ((hb.block w.heap.size (by rw[World.size_alloc];omega)).trans P0.out)
 have B:=Lib.hid (B0.out.trans (hb.mono B0.out.size))
 have F0:=qkrp 7 A m m x y
 clear hb c0
 have c0:=cell_of_row _ w.heap.size 0 _ _ _ P.out
 have c1:=cell_of_row _ w.heap.size 1 _ _ _ P.out
 have c2:=cell_of_row _ w.heap.size 2 _ _ _ P.out
 have c3:=cell_of_row _ w.heap.size 3 _ _ _ P.out
 go_wp2_with fail
 refine(BT.out _).mono ?_
 rintro e w2 ⟨rfl,hb⟩
 have P:=Lib.hid ((hb.block w.heap.size (lt_of_block P.out)).trans P.out)
 have B:=Lib.hid (B.out.trans (hb.mono B.out.size))
 clear hb c0 c1 c2 c3
 have c0:=cell_of_row _ w.heap.size 0 _ _ _ P.out
 have c1:=cell_of_row _ w.heap.size 1 _ _ _ P.out
 have c2:=cell_of_row _ w.heap.size 2 _ _ _ P.out
 have c3:=cell_of_row _ w.heap.size 3 _ _ _ P.out
 go_wp2_with fail
 refine(LK.out _).mono ?_
 rintro e w3 ⟨A,m,x,y,rfl,hb⟩
 have F0:=qkrp 7 A m m x y
 have P:=Lib.hid ((hb.block w.heap.size (lt_of_block P.out)).trans P.out)
 have B:=Lib.hid (B.out.trans (hb.mono B.out.size))
 clear hb c0 c1 c2 c3
 have c0:=cell_of_row _ w.heap.size 0 _ _ _ P.out
 have c1:=cell_of_row _ w.heap.size 1 _ _ _ P.out
 have c2:=cell_of_row _ w.heap.size 2 _ _ _ P.out
 have c3:=cell_of_row _ w.heap.size 3 _ _ _ P.out
 go_wp2_with fail
 refine(BV.out _).mono ?_
 rintro e w4 ⟨rfl,hb⟩
 have P:=Lib.hid ((hb.block w.heap.size (lt_of_block P.out)).trans P.out)
 have B:=Lib.hid (B.out.trans (hb.mono B.out.size))
 clear hb c0 c1 c2 c3
 have c0:=cell_of_row _ w.heap.size 0 _ _ _ P.out
 have c1:=cell_of_row _ w.heap.size 1 _ _ _ P.out
 have c2:=cell_of_row _ w.heap.size 2 _ _ _ P.out
 have c3:=cell_of_row _ w.heap.size 3 _ _ _ P.out
 go_wp2_with fail
 go_ret
 exact⟨rfl,B.out⟩
end
theorem qq3r{kind:Int}(p:Pr)(ck:qr4y kind p=0)(w:World) :
 Calls Tryz.prog 126 #[qbhk p] w fun e w'=>e = .returned (.string (bs (qgdb p)))∧Below w.heap.size w w':=by
 obtain⟨hm,h4,h5⟩:=qo1o ck
 obtain⟨r1,r2,f1,f2,f3,f4,_⟩:=qznl hm
 have LK:=fun W=>(q43i p.id W).mono (R':=fun e w'=>∃A m x y,e = .returned (.agg #[.int .i64 ((qwgc p.id:Nat):Int),.slice A m m,.int .u32 x,.int .u32 y])∧Below W.heap.size W w') (fun e w' ⟨A,h1,h2,_⟩=>⟨A,_,_,_,h1,h2⟩)
 have hh:qwgc p.id=1∨qwgc p.id=2∨qwgc p.id=3∨qwgc p.id=4∨qwgc p.id=5∨qwgc p.id=6∨qwgc p.id=7:=by omega
 unfold qgdb qbhk
 rcases hh with s | s | s | s | s | s | s
 ·rw[s] at LK
  rw[if_pos s]
  obtain⟨_,_,_,hn⟩:=h4 (by omega)
  have:=f1 s
  exact q0sc LK (by simp only[IntKind.wrap_u64];omega) (fun W=>qeva p.n 1 W (by omega) (by decide) (by decide)) w
 ·rw[s] at LK
  rw[if_neg (by omega),if_pos s]
  obtain⟨_,_,_,hn⟩:=h4 (by omega)
  have:=f2 s
  exact qqo9 LK (by simp only[IntKind.wrap_u64];omega) (fun W=>qeva p.n 2 W (by omega) (by decide) (by decide)) w
 ·rw[s] at LK
  rw[if_neg (by omega),if_neg (by omega),if_pos s]
  obtain⟨_,_,_,hn⟩:=h4 (by omega)
  have:=f3 s
  exact qwbv LK (by simp only[IntKind.wrap_u64];omega) (fun W=>qeva p.n 4 W (by omega) (by decide) (by decide)) w
 ·rw[s] at LK
  rw[if_neg (by omega),if_neg (by omega),if_neg (by omega),if_pos s]
  obtain⟨_,_,_,hn⟩:=h4 (by omega)
  have:=f4 s
  exact qbt6 LK (by simp only[IntKind.wrap_i64];omega) (fun W=>qwha p.n W (by omega)) w
 all_goals
  rw[if_neg (by omega),if_neg (by omega),if_neg (by omega),if_neg (by omega)]
  obtain⟨_,hv7,hv6,hvt⟩:=h5 (by omega)
  rw[s] at LK
 ·rw[if_neg (by omega)]
  obtain⟨v1,v2⟩:=hvt (by omega)
  have l1:=((qbv6 _).1 v1).1
  exact q9o4 LK (fun W=>q5pn (bs p.text) W (by rw[q5zk];exact l1)) w
 ·rw[if_neg (by omega)]
  have l1:=hv6 s
  exact qfll LK (fun W=>q5pn (bs p.text) W (by rw[q5zk];exact l1)) w
 ·rw[if_pos s]
  obtain⟨v1,v2⟩:=hvt (by omega)
  have l1:=((qbv6 _).1 v1).1
  have l2:=((qbv6 _).1 v2).1
  have:=q5gg (st:=bs p.text) (sv:=bs p.value) (n:=p.n) LK (fun W=>q5pn (bs p.text) W (by rw[q5zk];exact l1)) (fun W=>q5pn (bs p.value) W (by rw[q5zk];exact l2)) (by rw[q5zk,q5zk,qnp6,qnp6,qkd1,qkd1];omega) w
  rw[qyv7] at this
  exact this
def RsAt(W:World)(cb:Nat)(s:ByteArray)(x:Cs):Prop:=∃i,i≤s.size∧Ref W cb s i (x.e:Nat)∧s.data.toList.drop i=x.r
theorem qo1z(s:ByteArray)(i:Nat)(hi:i≤s.size):s.extract i s.size=bs (s.data.toList.drop i):=by
 have h:=q31q s i (s.size - i)
 rw[Nat.add_sub_cancel' hi] at h
 rw[h,List.take_of_length_le (by rw[List.length_drop,←q4ad];exact Nat.le_refl _)]
section
variable{w W W':World}{cb:Nat}{s:ByteArray}{x:Cs}
theorem RsAt.lt(h:RsAt W cb s x):cb < W.heap.size:=by obtain⟨i,_,hc,_⟩:=h;exact hc.lt
theorem RsAt.of_block(h:RsAt W cb s x)(hb:W'.heap[cb]? = W.heap[cb]?):RsAt W' cb s x:=by obtain⟨i,hi,hc,hr⟩:=h;exact⟨i,hi,hc.of_block hb,hr⟩
theorem RsAt.below(h:RsAt W cb s x)(hb:Below W.heap.size W W'):RsAt W' cb s x:=h.of_block (hb.block cb h.lt)
theorem qnev{i:Nat}(hi:i≤s.size)(hr:s.data.toList.drop i=x.r)(n:Nat):tk s i (x.e:Nat) n=bs (x.take n).1∧te s i (x.e:Nat) n=((x.take n).2.e:Nat)∧s.data.toList.drop (ti s i (x.e:Nat) n)=(x.take n).2.r:=by
 have hl:x.r.length=s.size - i:=by rw[←hr,List.length_drop,←q4ad]
 unfold Cs.take
 rcases qqbf s i (x.e:Nat) n hi with ⟨h,h1,h2,h3⟩ | ⟨h,hz,h1,h2,h3⟩ | ⟨h,hz,h1,h2,h3⟩ | ⟨m,h,hm,hz,h1,h2,h3⟩<;>rw[h1,h2,h3]
 ·have he:x.e≠0:=by intro e;rw[e] at h;cases h
  rw[if_pos he]
  exact⟨rfl,rfl,hr⟩
 ·omega
 ·rw[if_neg (by omega),if_pos (by omega)]
  exact⟨rfl,rfl,hr⟩
 ·obtain rfl:m=n:=by omega
  rw[if_neg (by omega),if_neg (by omega)]
  exact⟨by rw[q31q,hr],rfl,by rw[←hr,List.drop_drop]⟩
theorem qyb5(n:Nat)(hn8:n≤8)(hm:s.size≤9223372036854775807)(h:RsAt w cb s x) :
 Calls Tryz.prog 39 #[.pointer (some ⟨cb,0,none⟩),.int .i64 n] w fun e w'=>e = .returned (.int .u64 ((x.num n).1:Nat))∧RsAt w' cb s (x.num n).2∧w.grownBy w' (some cb):=by
 obtain⟨i,hi,hc,hr⟩:=h
 obtain⟨a1,a2,a3⟩:=qnev (x:=x) hi hr n
 have hle:(x.take n).1.length≤n:=by
  unfold Cs.take
  split
  ·exact Nat.zero_le _
  ·split
   ·exact Nat.zero_le _
   ·simp;omega
 have hN:qf3l (tk s i (x.e:Nat) n)=(x.num n).1:=by
  rw[a1]
  show num ((bs (x.take n).1).data.toList.drop ((bs (x.take n).1).size - 8))=num (x.take n).1
  rw[q5zk,show(x.take n).1.length - 8=0 by omega]
  rfl
 refine(quje (n:Int) hc hi hm).mono fun e w' ⟨h1,h2,h3⟩=>⟨by rw[h1,hN],⟨_,qqc6 s i _ _ hi,by rw[show((x.num n).2.e:Nat)=(x.take n).2.e from rfl,←a2];exact h2,a3⟩,h3⟩
theorem qw3h(f:Nat)(h:RsAt w cb s x) :
 Calls Tryz.prog 64 #[.pointer (some ⟨cb,0,none⟩),.int .i64 f] w fun e w'=>e = .returned (.tuple #[])∧RsAt w' cb s (x.fail f)∧w.grownBy w' (some cb):=by
 obtain⟨i,hi,hc,hr⟩:=h
 refine(qi5e (f:Int) hc).mono fun e w' ⟨h1,h2,h3⟩=>⟨h1,?_,h3⟩
 unfold Cs.fail
 by_cases he:x.e=0
 ·rw[if_neg (by simpa using he)]
  rw[show fe ((x.e:Nat):Int) f=(f:Int) by rw[he];rfl] at h2
  exact⟨i,hi,h2,hr⟩
 ·rw[if_pos he]
  have hb:(((x.e:Nat):Int)==0)=false:=by simp;omega
  rw[show fe ((x.e:Nat):Int) f=((x.e:Nat):Int) by unfold fe;rw[hb];rfl] at h2
  exact⟨i,hi,h2,hr⟩
theorem q5u4(hm:s.size≤9223372036854775807)(h:RsAt w cb s x) :
 Calls Tryz.prog 61 #[.pointer (some ⟨cb,0,none⟩)] w fun e w'=>e = .returned (.int .i64 (x.r.length:Nat))∧RsAt w' cb s x∧w.grownBy w' (some cb):=by
 obtain⟨i,hi,hc,hr⟩:=h
 have hl:x.r.length=s.size - i:=by rw[←hr,List.length_drop,←q4ad]
 rw[hl]
 refine(qr1r hc hi hm).mono fun e w' ⟨h1,n,h2⟩=>⟨h1,h2▸⟨i,hi,hc.draws n,hr⟩,h2▸qgju (n:=n) (World.grownBy.refl _ _)⟩
end
theorem q7jb(d:Bool)(r:List UInt8):((rdB r).2.2≠0∧q91e d r=([],0,5))∨((rdB r).2.2=0∧d=false∧qecx (rdB r).1=false∧q91e d r=([],0,6))∨((rdB r).2.2=0∧(d=true∨(d=false∧qecx (rdB r).1=true))∧q91e d r=((rdB r).1,(rdB r).2.1,0)):=by
 unfold q91e
 by_cases h:(rdB r).2.2=0
 ·rw[if_neg (by simp[h])]
  cases d<;>cases hv:qecx (rdB r).1<;>simp[h]
 ·exact .inl ⟨h,by rw[if_pos h]⟩
theorem qs5r(s:ByteArray)(at' sh:Nat)(w:World)(hs:s.size≤70000)(ha:at'≤s.size)(_hsh:sh≤7) :
 Calls Tryz.prog 141 #[.string s,.int .i64 at',.int .i64 sh] w fun e w'=>e = .returned (.tuple #[.string (bs (q91e (sh==6) (s.data.toList.drop at')).1),.int .i64 (if (q91e (sh==6) (s.data.toList.drop at')).2.2=0 then at'+(q91e (sh==6) (s.data.toList.drop at')).2.1 else 0:Nat),.int .i64 ((q91e (sh==6) (s.data.toList.drop at')).2.2:Nat)])∧w'=w:=by
 have RB:=qra5 (s.extract at' s.size) w (by rw[q4ad,qh3u,List.length_drop,←q4ad];omega)
 rw[qh3u] at RB
 have hle:=q3gm (s.data.toList.drop at')
 rw[List.length_drop,←q4ad] at hle
 have q1:(at':Int)≤(s.size:Int):=by omega
 have q2:(0:Int)≤(at':Int):=by omega
 rcases q7jb (sh==6) (s.data.toList.drop at') with ⟨h1,h2⟩ | ⟨h1,h2,h3,h4⟩ | ⟨h1,h2,h3⟩
 ·rw[h2]
  unfold ok3 at RB
  generalize rdB (s.data.toList.drop at')=q at *
  obtain⟨t,k,z⟩:=q
  have n0:(((z:Nat):Int) != 0)=true:=by rw[bne_iff_ne];simp at h1;omega
  have RB:=Lib.hid RB
  simp only[show ¬(5:Nat)=0 by decide,if_false]
  clear h1 h2 hle hs ha _hsh
  go_enter Tryz.func141,Tryz.ntmps141
  go_wp2_with fail
  refine(RB.out).mono ?_
  rintro e w1 ⟨rfl,rfl⟩
  go_wp2_with fail
  go_ret3
  exact⟨rfl,rfl⟩
 ·rw[h4]
  have n6:(((sh:Nat):Int) != 6)=true:=by rw[bne_iff_ne];simp at h2;omega
  unfold ok3 at RB
  rw[h1] at RB
  have VA:=qcip (bs (rdB (s.data.toList.drop at')).1)
  rw[qkd1,h3] at VA
  generalize rdB (s.data.toList.drop at')=q at *
  obtain⟨t,k,z⟩:=q
  have RB:=Lib.hid RB
  have VA:=Lib.hid VA
  simp only[show ¬(6:Nat)=0 by decide,if_false]
  clear h1 h2 h3 h4 hle hs ha _hsh
  go_enter Tryz.func141,Tryz.ntmps141
  go_wp2_with fail
  refine(RB.out).mono ?_
  rintro e w1 ⟨rfl,rfl⟩
  go_wp2_with fail
  refine(VA.out _).mono ?_
  rintro e w1 ⟨rfl,rfl⟩
  go_wp2_with fail
  go_ret3
  exact⟨rfl,rfl⟩
 ·rw[h3]
  unfold ok3 at RB
  rw[h1] at RB
  have VA:=qcip (bs (rdB (s.data.toList.drop at')).1)
  rw[qkd1] at VA
  generalize hq:rdB (s.data.toList.drop at')=q at *
  obtain⟨t,k,z⟩:=q
  obtain⟨y,hy⟩:∃y,at'+k=y:=⟨_,rfl⟩
  have q3:IntKind.i64.wrap ((at':Int)+(k:Int))=(y:Int):=by simp only[IntKind.wrap_i64];simp at hle;omega
  have RB:=Lib.hid RB
  simp only[if_true,hy]
  rcases h2 with h2 | ⟨h2,hv⟩
  ·have n6:(((sh:Nat):Int) != 6)=false:=by simp at h2;rw[h2];rfl
   clear h1 h2 h3 hle hs ha _hsh hq hy VA
   go_enter Tryz.func141,Tryz.ntmps141
   go_wp2_with fail
   refine(RB.out).mono ?_
   rintro e w1 ⟨rfl,rfl⟩
   go_wp2_with fail
   go_ret3
   exact⟨rfl,rfl⟩
  ·have n6:(((sh:Nat):Int) != 6)=true:=by rw[bne_iff_ne];simp at h2;omega
   rw[hv] at VA
   have VA:=Lib.hid VA
   clear h1 h2 h3 hle hs ha _hsh hq hy hv
   go_enter Tryz.func141,Tryz.ntmps141
   go_wp2_with fail
   refine(RB.out).mono ?_
   rintro e w1 ⟨rfl,rfl⟩
   go_wp2_with fail
   refine(VA.out _).mono ?_
   rintro e w1 ⟨rfl,rfl⟩
   go_wp2_with fail
   go_ret3
   exact⟨rfl,rfl⟩
end Go.Proofs.YthhdhagenmcbeaaGreat
