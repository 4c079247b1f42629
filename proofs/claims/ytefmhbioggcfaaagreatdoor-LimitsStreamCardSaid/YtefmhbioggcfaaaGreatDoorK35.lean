/- The contracts of ack.read and ack.Read. Condition: the bytes are no more than memory holds. -/
import Derived.Test.YtefmhbioggcfaaaGreatDoorK33
import Derived.Test.YtefmhbioggcfaaaGreatDoorK34
import Derived.Test.YtefmhbioggcfaaaGreatDoorK31
set_option maxRecDepth 100000
set_option maxHeartbeats 4000000
namespace Go.Proofs.YtefmhbioggcfaaaGreatDoor
open Lib(hid)
open Proofs.Tryz
open Go.RowKit
section
variable{w W W':World}{cb:Nat}{s:ByteArray}{y:Cs}{kind:Int}
theorem q6xm(x:Cs):(x.num 2).1<65536:=by
 unfold Cs.num
 have:=qn9h (x.take 2).1
 have hl:(x.take 2).1.length<=2:=by
  unfold Cs.take;split
  ·simp
  ·split
   ·simp
   ·simp;omega
 have:256^(x.take 2).1.length<=256^2:=Nat.pow_le_pow_right (by decide) hl
 omega
theorem CsS.at_{B:Nat}{i c:Nat}{l:List Pr}{a:Ad}(h:CsS w cb s B y (pkB kind i c l) a W):PkAt W (pkB kind i c l) a:=
 ⟨fun e=>absurd rfl e,fun e=>absurd rfl e,fun e=>absurd rfl e,h.ps⟩
theorem q17y(v:Int)(y:Cs):(midB v kind y).1.2.2<=2:=by
 unfold midB qolc;split
 ·split
  ·exact Nat.zero_le _
  ·split
   ·exact Nat.le_succ _
   ·exact Nat.le_refl _
 ·exact Nat.zero_le _
def q2i6(w:World)(cb:Nat)(R:Pk×Nat)(e:Ending)(W:World):Prop:=
 ∃a:Ad,e=.returned (.tuple #[.agg (pkC R.1 a),.int .i64 (R.2:Nat)])/\PL W a.ps R.1.props/\R.1.props.length<=a.pc/\(∀g i,a.ps=some ⟨g,i,none⟩->w.heap.size<=g)/\w.grownBy W (some cb)
theorem q8pc(v:Int)(hk0:-9223372036854775808<=kind)(hk1:kind<=9223372036854775807)(hm:s.size<=140737488351232)(h:CsAt w cb s y) :
 Calls prog 135 #[.int .i64 v,.int .i64 kind,.pointer (some ⟨cb,0,none⟩)] w (q2i6 w cb ((qts0 v kind y).1,(qts0 v kind y).2.e)):=by
 have hm9:s.size<=9223372036854775807:=by omega
 have lt:=h.lt;have h0:=h.alloc (.cells pkZ 38);have NM:=q8yf 2 (by decide) hm9 h0;have hz:=q6xm y;unfold qts0;obtain⟨z,hzz⟩:∃z,y.num 2=z:=⟨_,rfl⟩
 rw[hzz] at NM hz ⊢;obtain⟨z1,z2⟩:=z;simp only at NM hz ⊢;have hz0:(z1:Int)<65536:=by omega
 have hw:IntKind.i64.wrap (z1:Int)=(z1:Int):=by rw[IntKind.wrap_i64];omega
 have TL:=fun B W (h:CsS w cb s B z2 (pkB kind z1 0 []) adZ W)=>qafx hk0 hk1 hm h;have hlen:=q17y (kind:=kind) v z2;have ER:=fun W (h:CsAt W cb s z2)=>q3gp h;obtain⟨bb,hbb⟩:∃b,((v==5)&&((z2.e:Int)==0))=b:=⟨_,rfl⟩
 have hmid:midB v kind z2=if bb then qolc kind z2 else((0,[],0),z2):=by unfold midB;rw[<-hbb];by_cases h5:v=5<;>by_cases he:z2.e=0<;>simp[h5,he]
 have TL2:bb=true->∀B W,CsS w cb s B z2 (pkB kind z1 0 []) adZ W->Calls prog 173 #[.pointer (some ⟨cb,0,none⟩),.pointer (some ⟨B,0,none⟩)] W fun e W'=>e=.returned (.int .i64 ((midB v kind z2).1.2.2:Nat))/\∃a',CsS w cb s B (midB v kind z2).2 (pkB kind z1 (midB v kind z2).1.1 (midB v kind z2).1.2.1) a' W':=fun hb B W h=>by rw[hmid,if_pos hb];exact TL B W h
 have TL3:bb=false->midB v kind z2=((0,[],0),z2):=fun hb=>by rw[hmid,if_neg (by rw[hb];decide)]
 clear TL hmid;obtain⟨t,ht⟩:∃t,midB v kind z2=t:=⟨_,rfl⟩
 rw[ht] at hlen TL2 TL3 ⊢;obtain⟨⟨c,l,n⟩,y3⟩:=t;simp only at hlen TL2 ⊢;have hn:n=0\/n=1\/n=2:=by omega
 have LF:=fun W (h:CsAt W cb s y3)=>qjtm hm9 h;obtain⟨dd,hdd⟩:∃d,(decide ((0:Int)<((y3.r.length:Nat):Int)) || decide ((necA (pkB kind z1 c l):Int)<(n:Int)))=d:=⟨_,rfl⟩
 have FL:=fun W (h:CsAt W cb s y3)=>qazj 5 h;have hdY:(if y3.r≠[]\/necA (pkB kind z1 c l)<n then y3.fail 5 else y3)=if dd then y3.fail 5 else y3:=by
  rw[<-hdd];have e:(y3.r≠[]\/necA (pkB kind z1 c l)<n)↔(decide ((0:Int)<((y3.r.length:Nat):Int)) || decide ((necA (pkB kind z1 c l):Int)<(n:Int)))=true:=by rw[Bool.or_eq_true,decide_eq_true_eq,decide_eq_true_eq];rw[<-List.length_pos_iff];omega
  simp only[e]
 rw[hdY];obtain⟨Y,hY⟩:∃Y,(if dd then y3.fail 5 else y3)=Y:=⟨_,rfl⟩
 rw[hY];have ER2:=fun W (h:CsAt W cb s Y)=>q3gp h;have NE:=fun B a W (h:CsS w cb s B y3 (pkB kind z1 c l) a W)=>(q6c0 (pkB kind z1 c l) a W).mono fun e W' hh=>(⟨hh.1,h.below hh.2⟩:_/\CsS w cb s B y3 (pkB kind z1 c l) a W')
 have hnl:=qxhf (pkB kind z1 c l);obtain⟨D,hD⟩:∃D,pkC (pkB kind z1 0 []) adZ=D:=⟨_,rfl⟩
 have hD1:D.size=25:=by rw[<-hD];exact qwmp _ _
 have hD2:D.all (·.oneCell')=true:=by rw[<-hD];exact qmz0 _ _
 have HD:=hid hD;have HD1:=hid hD1;have HD2:=hid hD2;have HZ:=hid qbwp;have hzv:=qrai;have hne:¬pkZ=#[]:=by intro h;have:=qbwp;rw[h] at this;cases this
 have RS0:=hid (heap_alloc_new w (.cells pkZ 38));have G0:=hid (World.grownBy_alloc w (.cells pkZ 38) (some cb));have LT:=hid lt;replace TL3:=hid TL3;have HB:=hid hbb;have HN:=hid hn;have HNL:=hid hnl;have HY:=hid hY;have HDD:=hid hdd;replace NM:=hid NM;replace TL2:=hid TL2;replace ER:=hid ER;replace LF:=hid LF;replace FL:=hid FL;replace ER2:=hid ER2;replace NE:=hid NE;clear hm hm9 h h0 lt hz hzz hbb hn hlen hnl hY hdd hdY ht hD hD1 hD2 hk0 hk1;go_in;go_wp2_with fail;refine(NM.out).mono ?_;rintro e W1 ⟨rfl,hc,hg⟩;have R1:=(hg.block _ (lt_of_block RS0.out) (fun e=>by have:=Option.some.inj e;have:=LT.out;omega)).trans RS0.out;have S1:=hid (CsS.laid LT.out (qo6d G0.out hg) R1 hc HD.out rfl);clear hc hg R1 RS0 G0 NM
 go_upto_region 3 with (first
  |(refine wpList_buildTo rfl 38 _ rfl (some _) rfl D (by rw[<-HD.out];kernel_rfl) ?_)
  |(refine wpList_store_row rfl _ _ _ rfl W1.heap.size D rfl rfl 38 _ (heap_alloc_new W1 _) (by rw[HD1.out];exact q5nr) (by rw[HZ.out,HD1.out]) HD2.out ?_))
 generalize W1.heap.size=B at *;generalize (W1.alloc (.cells pkZ 38)).setRow _ D=W2 at *;clear hzv hne;go_cut [21] (fun s21 wx=>s21=.bool bb/\CsS w cb s B z2 (pkB kind z1 0 []) adZ wx)
 case first=>
  by_cases h5:v=5
  ·subst h5;obtain⟨b0,hb0⟩:∃b,((z2.e:Int)==0)=b:=⟨_,rfl⟩
   have HB1:=HB.out;rw[hb0] at HB1;have HB1:=hid HB1;clear HB;go_wp2_with fail;refine(ER.out _ S1.out.cs).mono ?_;rintro e W3 ⟨rfl,rfl⟩;go_wp2_with fail
   go_meet
   exact⟨by rw[<-HB1.out];rfl,S1.out⟩
  ·have h5':(v==5)=false:=beq_eq_false_iff_ne.2 h5;have HB1:=HB.out;rw[h5'] at HB1;have HB1:=hid HB1;clear HB h5;go_wp2_with fail
   go_meet
   exact⟨by rw[<-HB1.out];rfl,S1.out⟩
 case rest=>
  obtain⟨rfl,hS⟩:=hcut;have S2:=hid hS;clear hS S1 ER HB
  go_upto_if 21 with fail
  go_cut [9] (fun s9 wx=>s9=.int .i64 (n:Int)/\∃a,CsS w cb s B y3 (pkB kind z1 c l) a wx)
  case first=>
   cases bb with
   |true=>
    have TL:=hid (TL2.out rfl);clear TL2 TL3;go_wp2_with fail;refine(TL.out _ _ S2.out).mono ?_;rintro e W3 ⟨rfl,a,hS⟩;have S3:=hid hS;clear hS;go_wp2_with fail
    go_meet
    exact⟨rfl,a,S3.out⟩
   |false=>
    have e:=TL3.out rfl;simp only[Prod.mk.injEq] at e;obtain⟨⟨rfl,rfl,rfl⟩,rfl⟩:=e;clear TL2 TL3;go_wp2_with fail
    go_meet
    exact⟨rfl,adZ,S2.out⟩
  case rest=>
   obtain⟨rfl,a,hS⟩:=hcut;have S3:=hid hS;clear hS S2 TL2 TL3;have NEa:=hid (NE.out B a);have CX:=hid (qwmp (pkB kind z1 c l) a)
   go_upto_region 5 with fail
   go_cut [32] (fun s32 wx=>s32=.bool dd/\CsS w cb s B y3 (pkB kind z1 c l) a wx)
   case first=>
    have LEN:=LF.out _ S3.out.cs;obtain⟨m,hmm⟩:∃m:Int,((y3.r.length:Nat):Int)=m:=⟨_,rfl⟩
    have hm1:0<=m:=by omega
    have hd:=HDD.out;rw[hmm] at LEN hd;replace LEN:=hid LEN;clear hmm HDD;generalize necA (pkB kind z1 c l)=q at *;by_cases hm0:0<m
    ·have g1:decide ((0:Int)<m)=true:=decide_eq_true hm0;rw[g1,Bool.true_or] at hd;have HD3:=hid hd;clear hd hm0 hm1;go_wp2_with fail;refine(LEN.out).mono ?_;rintro e W4 ⟨rfl,k,rfl⟩;have S4:=hid (S3.out.draws k);go_wp2_with fail
     go_meet
     exact⟨by rw[HD3.out],S4.out⟩
    ·obtain rfl:m=0:=by omega
     rw[show decide ((0:Int)<0)=false from rfl,Bool.false_or] at hd;have HD3:=hid hd;clear hd hm0 hm1;have hqn:decide (q<n)=decide ((q:Int)<(n:Int)):=by rw[decide_eq_decide];omega
     have HD4:=hid (hqn.trans HD3.out);clear hqn HD3;have hn:=HN.out;have hnl:=HNL.out;go_wp2_with fail;refine(LEN.out).mono ?_;rintro e W4 ⟨rfl,k,rfl⟩;have S4:=hid (S3.out.draws k);go_wp2_with (refine q2a5 rfl _ _ rfl B rfl 38 _ (0,0) _ S4.out.pk underlying38 rfl (by rw[CX.out];exact q5nr) ?_);refine(NEa.out _ S4.out).mono ?_;rintro e W5 ⟨rfl,hS⟩;have S5:=hid hS;clear hS;go_wp2_with fail
     go_meet
     exact⟨congrArg Value.bool HD4.out,S5.out⟩
   case rest=>
    obtain⟨rfl,hS⟩:=hcut;have S4:=hid hS;clear hS S3 LF NE NEa HN HNL HDD
    go_upto_if 32 with fail
    go_cut [] (fun wx=>CsS w cb s B Y (pkB kind z1 c l) a wx)
    case first=>
     cases dd with
     |true=>
      go_wp2_with fail;refine(FL.out _ S4.out.cs).mono ?_;rintro e W5 ⟨rfl,hc,hg⟩;have S5:=hid (S4.out.call hc hg);clear hc hg;go_wp2_with fail
      go_meet
      rw[<-HY.out];exact S5.out
     |false=>
      go_wp2_with fail
      go_meet
      rw[<-HY.out];exact S4.out
    case rest=>
     have S5:=hid hcut;clear hcut S4 FL;have hx:=qwmp (pkB kind z1 c l) a;have hy:=qmz0 (pkB kind z1 c l) a;have RT:=hid (fun V (h:CsS w cb s B Y (pkB kind z1 c l) a V)=>(show q2i6 w cb (pkB kind z1 c l,Y.e) (.returned (.tuple #[.agg (pkC (pkB kind z1 c l) a),.int .i64 (Y.e:Nat)])) (V.setRow w.heap.size (pkC (pkB kind z1 c l) a)) from
      ⟨a,rfl,h.ps.kept (by simp[World.setRow]) (fun g i e _=>setRow_other V w.heap.size g _ (by have:=h.pf g i e;have:=h.hB;omega)),h.pc,fun g i e=>by have:=h.pf g i e;have:=h.hB;omega,
       ⟨h.g.os,h.g.tape,h.g.output,Nat.le_trans h.g.size (by simp[World.setRow]),fun k hk hne=>(setRow_other V w.heap.size k _ (by omega)).trans (h.g.block k hk hne)⟩⟩))
     have RS5:=hid (fun V (h:CsS w cb s B Y (pkB kind z1 c l) a V)=>setRow_heap V w.heap.size _ (pkC (pkB kind z1 c l) a) _ _ h.rs);obtain⟨C,hC⟩:∃C,pkC (pkB kind z1 c l) a=C:=⟨_,rfl⟩
     rw[hC] at hx hy RT RS5;have HC1:=hid hx;have HC2:=hid hy;have HCC:=hid hC;clear hx hy hC CX
     go_upto_region 7 with fail
     refine q55m (S:=CsS w cb s B Y (pkB kind z1 c l) a) (b:=w.heap.size) (B:=B) (cb:=cb) (f:=(Y.e:Nat)) (C:=C) (S5.out.draws 1) HC1.out HC2.out (by have:=S5.out.hB;omega) (fun V h=>by rw[<-HCC.out];exact h.pk) (fun V h=>⟨_,h.rs,qbwp⟩) (fun V h=>ER2.out V h.cs) (fun V h=>ER2.out _ (h.cs.of_block (setRow_other V w.heap.size cb _ (by have:=h.lt;omega)))) ?_;intro V h;have G:=hid (RS5.out V h);have RTV:=hid (RT.out V h);clear h RT RS5;go_wp2_with fail;exact q8iy (cs:=C) rfl rfl rfl rfl underlying38 rfl (by rw[HC1.out];exact q5nr) G.out RTV.out
end
theorem q22l{v kind:Int}(hk:-9223372036854775808<=kind/\kind<=9223372036854775807)(y:Cs):FitA (qts0 v kind y).1:=by
 unfold qts0;simp only;refine q0yw hk ?_;unfold midB qolc;split
 ·split
  ·exact⟨fun p hp=>(nomatch hp),Nat.zero_le _⟩
  ·split
   ·exact⟨fun p hp=>(nomatch hp),Nat.zero_le _⟩
   ·exact qdz1 _ _
 ·exact⟨fun p hp=>(nomatch hp),Nat.zero_le _⟩
theorem qpbq(v kind:Int)(y:Cs):∃i c l,(qts0 v kind y).1=pkB kind i c l:=⟨_,_,_,rfl⟩
structure KrS(w:World)(B:Nat)(P:Pk)(a:Ad)(W:World):Prop where
 low:Below w.heap.size w W
 rs:W.heap[w.heap.size]?=some (.cells pkZ 38 (0,0))
 hB:w.heap.size<B
 pk:W.heap[B]?=some (.cells (pkC P a) 38 (0,0))
 at_:PkAt W P a
 pf:∀g i,a.ps=some ⟨g,i,none⟩->w.heap.size<g
theorem KrS.call{w W W':World}{B:Nat}{P:Pk}{a:Ad}(h:KrS w B P a W)(hb:Below W.heap.size W W'):KrS w B P a W':=
 ⟨qxh2 h.low hb,(hb.block _ (lt_of_block h.rs)).trans h.rs,h.hB,(hb.block _ (lt_of_block h.pk)).trans h.pk,h.at_.below hb,h.pf⟩
theorem qfe6(v kind:Int)(s:ByteArray)(w:World)(hk0:-9223372036854775808<=kind)(hk1:kind<=9223372036854775807)(hm:s.size<=140737488351232) :
 Calls prog 94 #[.int .i64 v,.int .i64 kind,.string s] w (q2da w (q9uf v kind s.data.toList)):=by
 have KN:=qnzz v kind;have HZ:=hid qbwp;have hzv:=qrai;have hne:¬pkZ=#[]:=by intro h;have:=qbwp;rw[h] at this;cases this
 have PZ:Hid (pkZ.all (·.oneCell')=true):=hid (qmz0 Pk.zero adZ);have R0:=hid (heap_alloc_new w (.cells pkZ 38));have L0:=hid (qybm (w:=w) (.cells pkZ 38));have RZ:=hid (fun(e:Nat) W (hb:Below w.heap.size w W)=>(show q2da w (Pk.zero,e) (.returned (.tuple #[.agg pkZ,.int .i64 (e:Nat)])) (W.setRow w.heap.size pkZ) from⟨adZ,rfl,qa3p _,Nat.zero_le _,qkys,q8xz hb (Nat.le_refl _) _,fun _=>rfl,q16x w⟩));rw[q96o];by_cases hk:(versC v&&qvya kind)=false
 ·rw[if_pos hk];rw[hk] at KN;have KN:=hid KN;clear hk;go_in;go_wp2_with fail;refine(KN.out _).mono ?_;rintro e W ⟨rfl,rfl⟩;go_wp2_with (first
   |(refine wpList_buildTo rfl 38 _ rfl (some _) rfl pkZ (by kernel_rfl) ?_)
   |(refine wpList_store_row rfl _ _ _ rfl w.heap.size pkZ rfl rfl 38 _ R0.out (by rw[HZ.out];exact q5nr) rfl PZ.out ?_))
  refine q8iy (cs:=pkZ) rfl rfl rfl rfl underlying38 rfl (by rw[HZ.out];exact q5nr) (setRow_heap _ _ _ _ _ _ R0.out) ?_;exact RZ.out 2 _ L0.out
 ·rw[if_neg hk];rw[Bool.not_eq_false] at hk;rw[hk] at KN;have KN:=hid KN;have RD:=fun cb W (h:CsAt W cb s ⟨s.data.toList,0⟩)=>q8pc v hk0 hk1 hm h;have FI:=q22l (v:=v) ⟨hk0,hk1⟩ ⟨s.data.toList,0⟩;obtain⟨pi,pc,pl,hpl⟩:=qpbq v kind ⟨s.data.toList,0⟩;obtain⟨z,hz⟩:∃z,qts0 v kind ⟨s.data.toList,0⟩=z:=⟨_,rfl⟩
  rw[hz] at RD FI hpl ⊢;obtain⟨P,Y⟩:=z;simp only at RD FI hpl ⊢;have PT:∀W a,PL W a.ps P.props->PkAt W P a:=fun W a h=>by subst hpl;exact⟨fun e=>absurd rfl e,fun e=>absurd rfl e,fun e=>absurd rfl e,h⟩
  have NL:=hid (show P.wProps=[]/\P.codes=[]/\P.filters=[] by subst hpl;exact⟨rfl,rfl,rfl⟩);obtain⟨f,hf⟩:∃f,Y.e=f:=⟨_,rfl⟩
  rw[hf] at RD ⊢;have VA:=fun a W (h:PkAt W P a) (hc:P.props.length<=a.pc)=>qat7 v P a W h FI.2 FI.1 hc;generalize qryp v P=q at *;obtain⟨R,hR⟩:∃R,(if (if f=0 then q else f)≠0 then(Pk.zero,(if f=0 then q else f)) else(P,0))=R:=⟨_,rfl⟩
  rw[hR];have HR:=hid hR;have HFI:=hid FI;replace RD:=hid RD;replace PT:=hid PT;replace VA:=hid VA;clear hk hz hpl hf hR FI hm;have ZW:=hid (show(w.alloc (.cells pkZ 38)).heap.size=w.heap.size+1 by simp);go_in;go_wp2_with fail;refine(KN.out _).mono ?_;rintro e W ⟨rfl,rfl⟩;generalize w.alloc (.cells pkZ 38)=W0 at *;go_wp2_with fail;refine(q2gu s _).mono ?_;rintro e W1 ⟨rfl,hc,hb1,hz1⟩;have C1:=(show CsAt W1 W0.heap.size s ⟨s.data.toList,0⟩ from⟨0,Nat.zero_le _,hc,by simp⟩)
  replace C1:=hid C1;have L1:=hid (qxh2 L0.out hb1);have R1:=hid ((hb1.block _ (lt_of_block R0.out)).trans R0.out);have Z1:=hid (show W1.heap.size=w.heap.size+2 by rw[hz1,ZW.out]);clear hc hb1 hz1;go_wp2_with fail;refine(RD.out _ _ C1.out).mono ?_;rintro e W2 ⟨a,rfl,p1,p2,p3,hg⟩;have L2:=L1.out.grown hg L1.out.size (fun k e=>by have:=Option.some.inj e;have:=ZW.out;omega);have R2:=(hg.block _ (lt_of_block R1.out) (fun e=>by have:=Option.some.inj e;have:=ZW.out;omega)).trans R1.out;have hbx:Below W2.heap.size W2 ((W2.alloc (.cells pkZ 38)).setRow W2.heap.size (pkC P a)):=q8xz (qybm (w:=W2) (.cells pkZ 38)) (Nat.le_refl _) (pkC P a);have S3:KrS w W2.heap.size P a ((W2.alloc (.cells pkZ 38)).setRow W2.heap.size (pkC P a)):=
   ⟨qxh2 L2 hbx,(hbx.block _ (lt_of_block R2)).trans R2,by have:=hg.size;have:=Z1.out;omega,setRow_heap _ _ _ _ _ _ (heap_alloc_new W2 _),PT.out _ a (p1.below hbx),fun g i e=>by have:=p3 g i e;have:=Z1.out;omega⟩
  have S3:=hid S3;have CP:=hid p2;have hD1:=qwmp P a;have hD2:=qmz0 P a;obtain⟨D,hD⟩:∃D,pkC P a=D:=⟨_,rfl⟩
  rw[hD] at hD1 hD2 S3 ⊢;have HD:=hid hD;have HD1:=hid hD1;have HD2:=hid hD2;have PKD:=hid (fun V (h:KrS w W2.heap.size P a V)=>(by rw[<-hD];exact h.pk:V.heap[W2.heap.size]?=some (.cells D 38 (0,0))));have VAa:=VA.out a;have VAa:=fun V (h:KrS w W2.heap.size P a V)=>(VAa V h.at_ CP.out).mono fun e W' hh=>(⟨hh.1,h.call hh.2⟩:_/\KrS w W2.heap.size P a W')
  rw[hD] at VAa;have VAa:=hid VAa;have FINT:=hid (fun V (h:KrS w W2.heap.size P a V)=>(show q2da w (P,0) (.returned (.tuple #[.agg D,.int .i64 ((0:Nat):Int)])) (V.setRow w.heap.size D) from
   ⟨a,by rw[hD],PT.out _ a (h.at_.ps.kept (by simp[World.setRow]) (fun g i e _=>setRow_other V w.heap.size g _ (by have:=h.pf g i e;omega))),CP.out,HFI.out,q8xz h.low (Nat.le_refl _) _,fun h=>absurd rfl h,qq13 NL.out.1 NL.out.2.1 NL.out.2.2 fun g i e=>by have:=h.pf g i e;omega⟩))
  clear p1 p2 p3 hg L2 R2 hbx hD1 hD2 hD VA PT RD;by_cases hf0:f=0
  ·subst hf0;by_cases hq:q=0
   ·subst hq;have hr:R=(P,0):=by rw[<-HR.out];simp
    subst hr;go_wp2_with (first
     |(refine wpList_store_row rfl _ _ _ rfl W2.heap.size D rfl rfl 38 _ (heap_alloc_new W2 _) (by rw[HD1.out];exact q5nr) (by rw[HZ.out,HD1.out]) HD2.out ?_)
     |(refine wpList_load_row rfl _ _ rfl W2.heap.size rfl 38 D (0,0) _ (PKD.out _ S3.out) underlying38 rfl (by rw[HD1.out];exact q5nr) ?_))
    refine(VAa.out _ S3.out).mono ?_;rintro e W4 ⟨rfl,hS⟩;have S4:=hid hS;have RS4:=hid hS.rs;clear hS;go_wp2_with (first
     |(refine wpList_store_row rfl _ _ _ rfl w.heap.size D rfl rfl 38 _ RS4.out (by rw[HD1.out];exact q5nr) (by rw[HZ.out,HD1.out]) HD2.out ?_)
     |(refine wpList_load_row rfl _ _ rfl W2.heap.size rfl 38 D (0,0) _ (PKD.out _ S4.out) underlying38 rfl (by rw[HD1.out];exact q5nr) ?_))
    exact q8iy (cs:=D) rfl rfl rfl rfl underlying38 rfl (by rw[HD1.out];exact q5nr) (setRow_heap _ _ _ _ _ _ RS4.out) (FINT.out _ S4.out)
   ·have hr:R=(Pk.zero,q):=by rw[<-HR.out];simp[hq]
    subst hr;have q1:((q:Int)==0)=false:=by simp;omega
    have q2:((q:Int) != 0)=true:=by simp;omega
    clear hq;go_wp2_with (first
     |(refine wpList_store_row rfl _ _ _ rfl W2.heap.size D rfl rfl 38 _ (heap_alloc_new W2 _) (by rw[HD1.out];exact q5nr) (by rw[HZ.out,HD1.out]) HD2.out ?_)
     |(refine wpList_load_row rfl _ _ rfl W2.heap.size rfl 38 D (0,0) _ (PKD.out _ S3.out) underlying38 rfl (by rw[HD1.out];exact q5nr) ?_))
    refine(VAa.out _ S3.out).mono ?_;rintro e W4 ⟨rfl,hS⟩;have RS4:=hid hS.rs;have RT:=hid (RZ.out q W4 hS.low);clear hS;go_wp2_with (first
     |(refine wpList_buildTo rfl 38 _ rfl (some _) rfl pkZ (by kernel_rfl) ?_)
     |(refine wpList_store_row rfl _ _ _ rfl w.heap.size pkZ rfl rfl 38 _ RS4.out (by rw[HZ.out];exact q5nr) rfl PZ.out ?_))
    exact q8iy (cs:=pkZ) rfl rfl rfl rfl underlying38 rfl (by rw[HZ.out];exact q5nr) (setRow_heap _ _ _ _ _ _ RS4.out) RT.out
  ·have hr:R=(Pk.zero,f):=by rw[<-HR.out];simp[hf0]
   subst hr;have q1:((f:Int)==0)=false:=by simp;omega
   have q2:((f:Int) != 0)=true:=by simp;omega
   have RS4:=hid S3.out.rs;have RT:=hid (RZ.out f _ S3.out.low);clear hf0;go_wp2_with (first
    |(refine wpList_store_row rfl _ _ _ rfl W2.heap.size D rfl rfl 38 _ (heap_alloc_new W2 _) (by rw[HD1.out];exact q5nr) (by rw[HZ.out,HD1.out]) HD2.out ?_)
    |(refine wpList_buildTo rfl 38 _ rfl (some _) rfl pkZ (by kernel_rfl) ?_)
    |(refine wpList_store_row rfl _ _ _ rfl w.heap.size pkZ rfl rfl 38 _ RS4.out (by rw[HZ.out];exact q5nr) rfl PZ.out ?_))
   exact q8iy (cs:=pkZ) rfl rfl rfl rfl underlying38 rfl (by rw[HZ.out];exact q5nr) (setRow_heap _ _ _ _ _ _ RS4.out) RT.out
section
variable{w W W':World}{cb:Nat}{s:ByteArray}{x y:Cs}{v:Int}{P:Pk}
theorem q563.out{W0:World}{B:Nat}{e:Ending}(h:q563 W0 cb s y P e W)(hcb:cb<w.heap.size)(hB:w.heap.size<=B)(hB2:B<W0.heap.size)(hg:w.grownBy W0 (some cb))(D:Array Value) :
 q563 w cb s y P e (W.setRow B D):=by
 obtain⟨a,he,p1,p2,p3,p4,p5,p6,hc,hG⟩:=h;have hr:=q573 W B D;refine⟨a,he,p1.grown hr (fun g i e=>by have:=p5 g i e;omega),p2,p3.grown hr (fun g i e=>by have:=p6 g i e;omega),p4,fun g i e=>by have:=p5 g i e;omega,fun g i e=>by have:=p6 g i e;omega,?_,qacl (qo6d hg hG) hB _⟩;exact hc.of_block (setRow_other W B cb D (by omega))
theorem qlcv(k:Int)(hk:k=1\/k=2)(hm:s.size<=9223372036854775807)(h:CsAt w cb s x) :
 Calls prog 115 #[rdrV cb v,.int .i64 k] w (q563 w cb s (if k=1 then qnld v x else qx6n v x).2 (if k=1 then qnld v x else qx6n v x).1):=by
 have S0:=hid (RkS.made (v:=v) h);have CO:=fun W (h:CsAt W cb s x)=>q822 (v:=v) hm h;have AC:=fun W (h:CsAt W cb s x)=>qldz (v:=v) hm h;have HZ:=hid qbwp;have hzv:=qrai;have hne:¬pkZ=#[]:=by intro h;have:=qbwp;rw[h] at this;cases this
 have CB:=hid h.lt;unfold rdrV at *;rcases hk with rfl|rfl
 ·rw[if_pos rfl];generalize qnld v x=z at *;obtain⟨P,y⟩:=z;have CO:=hid CO;clear AC h;have ZW:((w.alloc (.cells #[.pointer (some ⟨cb,0,none⟩),.int .i64 v] 155)).alloc (.cells pkZ 38)).heap.size=w.heap.size+2:=by simp
  have ZW:=hid ZW;go_in;have c0:=S0.out.c0;have c1:=S0.out.c1;go_wp2_with fail;refine(CO.out _ S0.out.cs).mono ?_;intro e W1 hR;have hR0:=hR;obtain⟨a,rfl,hr⟩:=hR;have hr1:=hr.2.2.2.2.2.2.2;have GR:=hid ((hr1.block (w.heap.size+1) (by rw[ZW.out];omega) (fun e=>by have:=Option.some.inj e;have:=CB.out;omega)).trans S0.out.rs);have hD1:=qwmp P a;have hD2:=qmz0 P a;obtain⟨D,hD⟩:∃D,pkC P a=D:=⟨_,rfl⟩
  rw[hD] at hD1 hD2 hR0 ⊢;have RT:=hid (hR0.out (B:=w.heap.size+1) CB.out (by omega) (by rw[ZW.out];omega) S0.out.g D);have HD1:=hid hD1;have HD2:=hid hD2;clear hD1 hD2 hD hR0 hr hr1 c0 c1;go_wp2_with (first
   |(refine wpList_store_row rfl _ _ _ rfl (w.heap.size+1) D rfl rfl 38 _ GR.out (by rw[HD1.out];exact q5nr) (by rw[HZ.out,HD1.out]) HD2.out ?_))
  exact q7wi (cs:=D) rfl rfl rfl underlying38 rfl (by rw[HD1.out];exact q5nr) (setRow_heap _ _ _ _ _ _ GR.out) RT.out
 ·rw[if_neg (by decide)];generalize qx6n v x=z at *;obtain⟨P,y⟩:=z;have AC:=hid AC;clear CO h;have ZW:((w.alloc (.cells #[.pointer (some ⟨cb,0,none⟩),.int .i64 v] 155)).alloc (.cells pkZ 38)).heap.size=w.heap.size+2:=by simp
  have ZW:=hid ZW;go_in;have c0:=S0.out.c0;have c1:=S0.out.c1;go_wp2_with fail;refine(AC.out _ S0.out.cs).mono ?_;intro e W1 hR;have hR0:=hR;obtain⟨a,rfl,hr⟩:=hR;have hr1:=hr.2.2.2.2.2.2.2;have GR:=hid ((hr1.block (w.heap.size+1) (by rw[ZW.out];omega) (fun e=>by have:=Option.some.inj e;have:=CB.out;omega)).trans S0.out.rs);have hD1:=qwmp P a;have hD2:=qmz0 P a;obtain⟨D,hD⟩:∃D,pkC P a=D:=⟨_,rfl⟩
  rw[hD] at hD1 hD2 hR0 ⊢;have RT:=hid (hR0.out (B:=w.heap.size+1) CB.out (by omega) (by rw[ZW.out];omega) S0.out.g D);have HD1:=hid hD1;have HD2:=hid hD2;clear hD1 hD2 hD hR0 hr hr1 c0 c1;go_wp2_with (first
   |(refine wpList_store_row rfl _ _ _ rfl (w.heap.size+1) D rfl rfl 38 _ GR.out (by rw[HD1.out];exact q5nr) (by rw[HZ.out,HD1.out]) HD2.out ?_))
  exact q7wi (cs:=D) rfl rfl rfl underlying38 rfl (by rw[HD1.out];exact q5nr) (setRow_heap _ _ _ _ _ _ GR.out) RT.out
structure RrS(w:World)(cb:Nat)(s:ByteArray)(v:Int)(B B2:Nat)(P:Pk)(a:Ad)(y:Cs)(W:World):Prop where
 low:Below w.heap.size w W
 rs:W.heap[w.heap.size]?=some (.cells pkZ 38 (0,0))
 bx:W.heap[B]?=some (.cells #[.pointer (some ⟨cb,0,none⟩),.int .i64 v] 155 (0,0))
 pk:W.heap[B2]?=some (.cells (pkC P a) 38 (0,0))
 cs:CsAt W cb s y
 ps:PL W a.ps P.props
 ws:PL W a.w P.wProps
 c1:w.heap.size<cb
 c2:B≠cb
 c3:B2≠cb
 pf:∀g i,a.ps=some ⟨g,i,none⟩->g≠cb
 wf:∀g i,a.w=some ⟨g,i,none⟩->g≠cb
 pg:∀g i,a.ps=some ⟨g,i,none⟩->g≠w.heap.size
 wg:∀g i,a.w=some ⟨g,i,none⟩->g≠w.heap.size
section
variable{B B2:Nat}{a:Ad}{y':Cs}
theorem RrS.call(h:RrS w cb s v B B2 P a y W)(hc:CsAt W' cb s y')(hg:W.grownBy W' (some cb)):RrS w cb s v B B2 P a y' W':=
 ⟨h.low.grown hg h.low.size (fun k e=>by have:=Option.some.inj e;have:=h.c1;omega),(hg.block _ (lt_of_block h.rs) (fun e=>by have:=Option.some.inj e;have:=h.c1;omega)).trans h.rs,(hg.block _ (lt_of_block h.bx) (fun e=>h.c2 (Option.some.inj e))).trans h.bx,(hg.block _ (lt_of_block h.pk) (fun e=>h.c3 (Option.some.inj e))).trans h.pk,hc,h.ps.grown hg h.pf,h.ws.grown hg h.wf,h.c1,h.c2,h.c3,h.pf,h.wf,h.pg,h.wg⟩
theorem RrS.below(h:RrS w cb s v B B2 P a y W)(hb:Below W.heap.size W W'):RrS w cb s v B B2 P a y W':=h.call (h.cs.below hb) (q9cp hb _)
theorem RrS.drew(h:RrS w cb s v B B2 P a y W):RrS w cb s v B B2 P a y W.drew:=⟨h.low.drew,h.rs,h.bx,h.pk,h.cs,h.ps,h.ws,h.c1,h.c2,h.c3,h.pf,h.wf,h.pg,h.wg⟩
theorem RrS.c0'(h:RrS w cb s v B B2 P a y W):W.cell? ⟨B,0,none⟩=some (.pointer (some ⟨cb,0,none⟩)):=cell_of_row _ _ 0 _ _ _ h.bx
theorem RrS.c1'(h:RrS w cb s v B B2 P a y W):W.cell? ⟨B,1,none⟩=some (.int .i64 v):=cell_of_row _ _ 1 _ _ _ h.bx
end
def qz94(w:World)(R:Pk×Nat)(e:Ending)(W:World):Prop:=
 ∃a:Ad,e=.returned (.tuple #[.agg (pkC R.1 a),.int .i64 (R.2:Nat)])/\PkAt W R.1 a/\PkCap R.1 a/\FitP R.1/\Below w.heap.size w W/\(R.2≠0->a=adZ)/\FrA w R.1 a
theorem qgzg(v k:Int)(s:ByteArray)(w:World)(hm:s.size<=9223372036854775807) :
 Calls prog 90 #[.int .i64 v,.int .i64 k,.string s] w (qz94 w (q56s v k s.data.toList)):=by
 have KN:=q564 v k;have HZ:=hid qbwp;have hzv:=qrai;have hne:¬pkZ=#[]:=by intro h;have:=qbwp;rw[h] at this;cases this
 by_cases hk:(versC v&&(k==1 || k==2))=false
 ·have e:q56s v k s.data.toList=(Pk.zero,2):=by unfold q56s;rw[if_pos hk]
  rw[e];rw[hk] at KN;have KN:=hid KN;have RT:=hid (show qz94 w (Pk.zero,2) (.returned (.tuple #[.agg pkZ,.int .i64 2])) ((w.alloc (.cells pkZ 38)).setRow w.heap.size pkZ) from⟨adZ,rfl,qa3p _,qe1o,qknl,q8xz (qybm _) (Nat.le_refl _) _,fun _=>rfl,q16x w⟩);clear e hk;go_in;go_wp2_with fail;refine(KN.out _).mono ?_;rintro e W ⟨rfl,rfl⟩;go_wp2_with (first
   |(refine wpList_buildTo rfl 38 _ rfl (some 15) rfl pkZ (by kernel_rfl) ?_)
   |(refine wpList_store_row rfl _ _ _ rfl w.heap.size pkZ rfl rfl 38 _ (heap_alloc_new w _) (by rw[HZ.out];exact q5nr) rfl (show pkZ.all (·.oneCell')=true from qmz0 Pk.zero adZ) ?_))
  refine q8iy (cs:=pkZ) rfl rfl rfl rfl underlying38 rfl (by rw[HZ.out];exact q5nr) (setRow_heap _ _ _ _ _ _ (heap_alloc_new w _)) ?_;exact RT.out
 ·rw[Bool.not_eq_false] at hk;have hk12:k=1\/k=2:=by simp only[Bool.and_eq_true,Bool.or_eq_true,beq_iff_eq] at hk;exact hk.2
  rw[hk] at KN;have KN:=hid KN;have PA:=fun cb x W (h:CsAt W cb s x)=>qlcv (v:=v) k hk12 hm h;have FI:FitP (if k=1 then qnld v ⟨s.data.toList,0⟩ else qx6n v ⟨s.data.toList,0⟩).1:=by split;exact q553 v _;exact qx14 v _
  have e:q56s v k s.data.toList=(let x:=if k=1 then qnld v ⟨s.data.toList,0⟩ else qx6n v ⟨s.data.toList,0⟩
   let z:=(if (x.2.r.length:Int)==0 then x.2 else x.2.fail 5).fail (validC v x.1)
   if z.e≠0 then(Pk.zero,z.e) else(x.1,0)):=by
   unfold q56s;rw[if_neg (by rw[hk];decide)];simp only[qz9v];have h0:∀l:List UInt8,(((l.length:Int)==0)=false)=(l≠[]):=fun l=>by cases l<;>simp;omega
   simp only[h0]
  rw[e];have PA:=fun cb W h=>PA cb ⟨s.data.toList,0⟩ W h;generalize (if k=1 then qnld v ⟨s.data.toList,0⟩ else qx6n v ⟨s.data.toList,0⟩)=z at *;obtain⟨P,y⟩:=z;simp only at FI PA ⊢;have RQ:=fun(cb:Nat) W (h:CsAt W cb s y)=>qr75 (v:=v) ((y.r.length:Int)==0) 5 h;obtain⟨b,hb⟩:∃b,((y.r.length:Int)==0)=b:=⟨_,rfl⟩
  rw[hb] at RQ ⊢;obtain⟨y2,hy2⟩:∃z,(if b=true then y else y.fail 5)=z:=⟨_,rfl⟩
  rw[hy2] at RQ ⊢;obtain⟨R,hR⟩:∃R,(if (y2.fail (validC v P)).e≠0 then(Pk.zero,(y2.fail (validC v P)).e) else(P,0))=R:=⟨_,rfl⟩
  rw[hR];have HR:=hid hR;have hyr:y2.r=y.r:=by
   rw[<-hy2];cases b
   ·rw[if_neg (by decide)];unfold Cs.fail;split<;>rfl
   ·rfl
  have HYR:=hid hyr;have VA:=fun(a:Ad) W (h:PkAt W P a) (hc:PkCap P a)=>qspo v P a W h FI.2.1 FI.1 hc;have HFI:=hid FI;have HB:=hid hb;have PA:=hid PA;have RQ:=hid RQ;have VA:=hid VA;have ER:=hid (fun(cb:Nat) W (h:CsAt W cb s y2)=>q3gp h);have LF:=hid (fun(cb:Nat) W (h:CsAt W cb s y)=>qjtm hm h);have HM:=hid hm;unfold rdrV at *;clear hk e hb hy2 hR FI hm hyr;have ZW:(w.alloc (.cells pkZ 38)).heap.size=w.heap.size+1:=by simp
  have ZW:=hid ZW;have RS0:=hid (heap_alloc_new w (.cells pkZ 38));have L0:=hid (qybm (w:=w) (.cells pkZ 38));go_in;go_wp2_with fail;refine(KN.out _).mono ?_;rintro e W ⟨rfl,rfl⟩;generalize w.alloc (.cells pkZ 38)=W0 at *;go_wp2_with fail;refine(q2gu s _).mono ?_;rintro e W1 ⟨rfl,hc,hb1,hz1⟩;have C1:=(show CsAt W1 W0.heap.size s ⟨s.data.toList,0⟩ from⟨0,Nat.zero_le _,hc,by simp⟩)
  rw[ZW.out] at C1;have C1:=hid C1;have L1:=hid (qxh2 L0.out hb1);have R1:=hid ((hb1.block _ (lt_of_block RS0.out)).trans RS0.out);have Z1:=hid (show W1.heap.size=w.heap.size+2 by rw[hz1,ZW.out]);clear hc hb1 hz1;have CX:=hid (C1.out.alloc (.cells #[.pointer (some ⟨w.heap.size+1,0,none⟩),.int .i64 v] 155));have BX:=hid (heap_alloc_new W1 (.cells #[.pointer (some ⟨w.heap.size+1,0,none⟩),.int .i64 v] 155));have LX:=hid (qxh2 L1.out (qybm (.cells #[.pointer (some ⟨w.heap.size+1,0,none⟩),.int .i64 v] 155)));have RX:=hid ((heap_alloc_old W1 (.cells #[.pointer (some ⟨w.heap.size+1,0,none⟩),.int .i64 v] 155) (lt_of_block R1.out)).trans R1.out);have ZX:=hid (World.size_alloc W1 (.cells #[.pointer (some ⟨w.heap.size+1,0,none⟩),.int .i64 v] 155));go_wp2_with fail;refine(PA.out _ _ CX.out).mono ?_;rintro e W2 ⟨a,rfl,p1,p2,p3,p4,p5,p6,hc,hg⟩;have L2:=LX.out.grown hg LX.out.size (fun k e=>by have:=Option.some.inj e;omega);have R2:=(hg.block _ (lt_of_block RX.out) (fun e=>by have:=Option.some.inj e;omega)).trans RX.out;have B2:=(hg.block _ (lt_of_block BX.out) (fun e=>by have:=Option.some.inj e;have:=Z1.out;omega)).trans BX.out;have hD1:=qwmp P a;have hD2:=qmz0 P a;have Z2:w.heap.size+3<=W2.heap.size:=by have:=hg.size;have:=ZX.out;have:=Z1.out;omega
  have hbx:=qybm (w:=W2) (.cells pkZ 38);have hR3:∀g,g<W2.heap.size->((W2.alloc (.cells pkZ 38)).setRow W2.heap.size (pkC P a)).heap[g]?=W2.heap[g]? := fun g hg=>(setRow_other _ _ _ _ (by omega)).trans (heap_alloc_old _ _ hg);have S3:RrS w (w.heap.size+1) s v W1.heap.size W2.heap.size P a y ((W2.alloc (.cells pkZ 38)).setRow W2.heap.size (pkC P a)):=
   ⟨q8xz (L2.trans (hbx.mono L2.size)) (by omega) _,(hR3 _ (by omega)).trans R2,(hR3 _ (by have:=Z1.out;omega)).trans B2,setRow_heap _ _ _ _ _ _ (heap_alloc_new W2 _),hc.of_block (hR3 _ hc.lt),
    p1.kept (by simp[World.setRow]) (fun g i e h=>hR3 g h),p3.kept (by simp[World.setRow]) (fun g i e h=>hR3 g h),by omega,by have:=Z1.out;omega,by omega,fun g i e=>by have:=p5 g i e;have:=ZX.out;have:=Z1.out;omega,fun g i e=>by have:=p6 g i e;have:=ZX.out;have:=Z1.out;omega,
    fun g i e=>by have:=p5 g i e;have:=ZX.out;have:=Z1.out;omega,fun g i e=>by have:=p6 g i e;have:=ZX.out;have:=Z1.out;omega⟩
  have S3:=hid S3;have CP:=hid (PkCap.mk (p:=P) (a:=a) p2 p4 HFI.out.2.2.1);obtain⟨D,hD⟩:∃D,pkC P a=D:=⟨_,rfl⟩
  rw[hD] at hD1 hD2 S3 ⊢;have HD:=hid hD;have HD1:=hid hD1;have HD2:=hid hD2;have PT:∀(y':Cs) W,RrS w (w.heap.size+1) s v W1.heap.size W2.heap.size P a y' W->PkAt W P a:=fun y' W h=>⟨h.ws,by rw[HFI.out.2.2.2.1];exact fun e=>absurd rfl e,by rw[HFI.out.2.2.2.2];exact fun e=>absurd rfl e,h.ps⟩
  have PT:=hid PT;have FA:=hid (show FrA w P a by
   rintro g i (⟨_,e⟩|⟨e,-⟩|⟨e,-⟩|e)
   ·have:=p6 g i e;have:=ZX.out;have:=Z1.out;omega
   ·exact absurd HFI.out.2.2.2.1 e
   ·exact absurd HFI.out.2.2.2.2 e
   ·have:=p5 g i e;have:=ZX.out;have:=Z1.out;omega)
  clear hc hg p1 p2 p3 p4 p5 p6 L2 R2 B2 hD hD1 hD2 Z2 hbx hR3
  go_upto_region 5 with (refine wpList_store_row rfl _ _ _ rfl W2.heap.size D rfl rfl 38 _ (heap_alloc_new W2 _) (by rw[HD1.out];exact q5nr) (by rw[HZ.out,HD1.out]) HD2.out ?_)
  refine qwvm (S:=fun u W=>RrS w (w.heap.size+1) s v W1.heap.size W2.heap.size P a (if u=true then y2 else y) W) (B:=W1.heap.size) (n:=(y.r.length:Int)) (b:=b) S3.out.drew (fun u W h=>h.c0') (fun u W h=>h.c1') HB.out (fun u W h=>by
   cases u
   ·exact(LF.out _ W h.cs).mono fun e w' ⟨he,n,hn⟩=>⟨he,hn▸h.below (qnpu (Below.refl _ _) n)⟩
   ·have hl:=h.cs
    have:=qjtm (s:=s) (by have:=S3.out.cs;exact HM.out) hl
    rw[if_pos rfl,HYR.out] at this;exact this.mono fun e w' ⟨he,n,hn⟩=>⟨he,hn▸h.below (qnpu (Below.refl _ _) n)⟩) (fun u W h hu=>by
   subst hu;exact(RQ.out _ W h.cs).mono fun e w' ⟨he,hc,hg⟩=>⟨he,h.call hc hg⟩) ?_
  intro W5 hS;have S5:=hid (show RrS w (w.heap.size+1) s v W1.heap.size W2.heap.size P a y2 W5 from hS);clear hS S3;have c0:=S5.out.c0';have c1:=S5.out.c1';go_wp2_with fail;refine(ER.out _ _ S5.out.cs).mono ?_;rintro e W6 ⟨rfl,rfl⟩;have P5:=S5.out.pk;rw[HD.out] at P5;have P5:=hid P5;clear c0 c1;by_cases he:y2.e=0
  ·have hr:=HR.out;have hr2:R=if validC v P≠0 then(Pk.zero,validC v P) else(P,0):=by
    rw[<-hr]
    have:(y2.fail (validC v P)).e=validC v P:=by unfold Cs.fail;rw[if_neg (by simpa using he)]
    rw[this]
   rw[he];have HRb:=hid hr2;generalize validC v P=V at *;clear hr hr2 HR he;go_wp2_with (refine wpList_load_row rfl _ _ rfl W2.heap.size rfl 38 D (0,0) _ P5.out underlying38 rfl (by rw[HD1.out];exact q5nr) ?_);have VX:=VA.out a W5 (PT.out _ _ S5.out) CP.out;unfold pkV at VX;rw[HD.out] at VX;refine VX.mono ?_;rintro e W7 ⟨rfl,hb7⟩;have S7:=hid (S5.out.below hb7);have P7:=S7.out.pk;rw[HD.out] at P7;have P7:=hid P7;clear VX hb7;by_cases hV:V=0
   ·have HRa:=hid (show R=(P,0) by rw[HRb.out,if_neg (by simpa using hV)]);subst hV;clear HRb;go_wp2_with (first
     |(refine wpList_load_row rfl _ _ rfl W2.heap.size rfl 38 D (0,0) _ P7.out underlying38 rfl (by rw[HD1.out];exact q5nr) ?_)
     |(refine wpList_store_row rfl _ _ _ rfl w.heap.size D rfl rfl 38 _ S7.out.rs (by rw[HD1.out];exact q5nr) (by rw[HZ.out,HD1.out]) HD2.out ?_))
    refine q8iy (cs:=D) rfl rfl rfl rfl underlying38 rfl (by rw[HD1.out];exact q5nr) (setRow_heap _ _ _ _ _ _ S7.out.rs) ?_;rw[HRa.out];have hr:=q573 W7 w.heap.size D;have hA:=PT.out _ _ S7.out;exact⟨a,by rw[HD.out];rfl,⟨hA.w.grown hr S7.out.wg,by rw[HFI.out.2.2.2.1];exact fun e=>absurd rfl e,by rw[HFI.out.2.2.2.2];exact fun e=>absurd rfl e,hA.ps.grown hr S7.out.pg⟩,CP.out,HFI.out,q8xz S7.out.low (Nat.le_refl _) _,fun h=>absurd rfl h,FA.out⟩
   ·have HRa:=hid (show R=(Pk.zero,V) by rw[HRb.out,if_pos hV]);have hv1:((V:Int)==0)=false:=by simp;omega
    have hv2:((V:Int) != 0)=true:=by simp;omega
    clear HRb hV;go_wp2_with (first
     |(refine wpList_buildTo rfl 38 _ rfl (some 39) rfl pkZ (by kernel_rfl) ?_)
     |(refine wpList_store_row rfl _ _ _ rfl w.heap.size pkZ rfl rfl 38 _ S7.out.rs (by rw[HZ.out];exact q5nr) rfl (show pkZ.all (·.oneCell')=true from qmz0 Pk.zero adZ) ?_))
    refine q8iy (cs:=pkZ) rfl rfl rfl rfl underlying38 rfl (by rw[HZ.out];exact q5nr) (setRow_heap _ _ _ _ _ _ S7.out.rs) ?_;rw[HRa.out];exact⟨adZ,rfl,qa3p _,qe1o,qknl,q8xz S7.out.low (Nat.le_refl _) _,fun _=>rfl,q16x w⟩
  ·have hr:=HR.out;have hr2:R=(Pk.zero,y2.e):=by
    rw[<-hr]
    have:(y2.fail (validC v P)).e=y2.e:=by unfold Cs.fail;rw[if_pos he]
    rw[this,if_pos he]
   have HRa:=hid hr2;have hv1:((y2.e:Int)==0)=false:=by simp;omega
   have hv2:((y2.e:Int) != 0)=true:=by simp;omega
   clear hr hr2 HR he;go_wp2_with (first
    |(refine wpList_buildTo rfl 38 _ rfl (some 39) rfl pkZ (by kernel_rfl) ?_)
    |(refine wpList_store_row rfl _ _ _ rfl w.heap.size pkZ rfl rfl 38 _ S5.out.rs (by rw[HZ.out];exact q5nr) rfl (show pkZ.all (·.oneCell')=true from qmz0 Pk.zero adZ) ?_))
   refine q8iy (cs:=pkZ) rfl rfl rfl rfl underlying38 rfl (by rw[HZ.out];exact q5nr) (setRow_heap _ _ _ _ _ _ S5.out.rs) ?_;rw[HRa.out];exact⟨adZ,rfl,qa3p _,qe1o,qknl,q8xz S5.out.low (Nat.le_refl _) _,fun _=>rfl,q16x w⟩
end
end Go.Proofs.YtefmhbioggcfaaaGreatDoor
