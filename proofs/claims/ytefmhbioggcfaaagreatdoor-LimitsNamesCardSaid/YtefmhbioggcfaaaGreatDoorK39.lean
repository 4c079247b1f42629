/- The contracts of ack.read and ack.Read. Condition: the bytes are no more than memory holds. -/
import Derived.Test.YtefmhbioggcfaaaGreatDoorK36
import Derived.Test.YtefmhbioggcfaaaGreatDoorK38
import Derived.Test.YtefmhbioggcfaaaGreatDoorK33
import Derived.Test.YtefmhbioggcfaaaGreatDoorK35
set_option maxRecDepth 100000
set_option maxHeartbeats 4000000
namespace Go.Proofs.YtefmhbioggcfaaaGreatDoor
open Lib(hid)
open Proofs.Tryz
open Go.RowKit
section
variable{w W W':World}{cb:Nat}{s:ByteArray}{y:Cs}{kind:Int}
theorem q6xm(x:Cs):(x.num 2).1<65536:=by
 unfold Cs.num
 have:=qn9h (x.take 2).1
 have hl:(x.take 2).1.length<=2:=by
  unfold Cs.take;split
  ·simp
  ·split
   ·simp
   ·simp;omega
 have:256^(x.take 2).1.length<=256^2:=Nat.pow_le_pow_right (by decide) hl
 omega
theorem CsS.at_{B:Nat}{i c:Nat}{l:List Pr}{a:Ad}(h:CsS w cb s B y (pkB kind i c l) a W):PkAt W (pkB kind i c l) a:=
 ⟨fun e=>absurd rfl e,fun e=>absurd rfl e,fun e=>absurd rfl e,h.ps⟩
theorem q17y(v:Int)(y:Cs):(midB v kind y).1.2.2<=2:=by
 unfold midB qolc;split
 ·split
  ·exact Nat.zero_le _
  ·split
   ·exact Nat.le_succ _
   ·exact Nat.le_refl _
 ·exact Nat.zero_le _
def q2i6(w:World)(cb:Nat)(R:Pk×Nat)(e:Ending)(W:World):Prop:=
 ∃a:Ad,e=.returned (.tuple #[.agg (pkC R.1 a),.int .i64 (R.2:Nat)])/\PL W a.ps R.1.props/\R.1.props.length<=a.pc/\(∀g i,a.ps=some ⟨g,i,none⟩->w.heap.size<=g)/\w.grownBy W (some cb)
theorem q8pc(v:Int)(hk0:-9223372036854775808<=kind)(hk1:kind<=9223372036854775807)(hm:s.size<=140737488351232)(h:CsAt w cb s y) :
 Calls prog 135 #[.int .i64 v,.int .i64 kind,.pointer (some ⟨cb,0,none⟩)] w (q2i6 w cb ((qts0 v kind y).1,(qts0 v kind y).2.e)):=by
 have hm9:s.size<=9223372036854775807:=by omega
 have lt:=h.lt;have h0:=h.alloc (.cells pkZ 38);have NM:=q8yf 2 (by decide) hm9 h0;have hz:=q6xm y;unfold qts0;obtain⟨z,hzz⟩:∃z,y.num 2=z:=⟨_,rfl⟩
 rw[hzz] at NM hz ⊢;obtain⟨z1,z2⟩:=z;simp only at NM hz ⊢;have hz0:(z1:Int)<65536:=by omega
 have hw:IntKind.i64.wrap (z1:Int)=(z1:Int):=by rw[IntKind.wrap_i64];omega
 have TL:=fun B W (h:CsS w cb s B z2 (pkB kind z1 0 []) adZ W)=>qafx hk0 hk1 hm h;have hlen:=q17y (kind:=kind) v z2;have ER:=fun W (h:CsAt W cb s z2)=>q3gp h;obtain⟨bb,hbb⟩:∃b,((v==5)&&((z2.e:Int)==0))=b:=⟨_,rfl⟩
 have hmid:midB v kind z2=if bb then qolc kind z2 else((0,[],0),z2):=by unfold midB;rw[<-hbb];by_cases h5:v=5<;>by_cases he:z2.e=0<;>simp[h5,he]
 have TL2:bb=true->∀B W,CsS w cb s B z2 (pkB kind z1 0 []) adZ W->Calls prog 173 #[.pointer (some ⟨cb,0,none⟩),.pointer (some ⟨B,0,none⟩)] W fun e W'=>e=.returned (.int .i64 ((midB v kind z2).1.2.2:Nat))/\∃a',CsS w cb s B (midB v kind z2).2 (pkB kind z1 (midB v kind z2).1.1 (midB v kind z2).1.2.1) a' W':=fun hb B W h=>by rw[hmid,if_pos hb];exact TL B W h
 have TL3:bb=false->midB v kind z2=((0,[],0),z2):=fun hb=>by rw[hmid,if_neg (by rw[hb];decide)]
 clear TL hmid;obtain⟨t,ht⟩:∃t,midB v kind z2=t:=⟨_,rfl⟩
 rw[ht] at hlen TL2 TL3 ⊢;obtain⟨⟨c,l,n⟩,y3⟩:=t;simp only at hlen TL2 ⊢;have hn:n=0\/n=1\/n=2:=by omega
 have LF:=fun W (h:CsAt W cb s y3)=>qjtm hm9 h;obtain⟨dd,hdd⟩:∃d,(decide ((0:Int)<((y3.r.length:Nat):Int)) || decide ((necA (pkB kind z1 c l):Int)<(n:Int)))=d:=⟨_,rfl⟩
 have FL:=fun W (h:CsAt W cb s y3)=>qazj 5 h;have hdY:(if y3.r≠[]\/necA (pkB kind z1 c l)<n then y3.fail 5 else y3)=if dd then y3.fail 5 else y3:=by
  rw[<-hdd];have e:(y3.r≠[]\/necA (pkB kind z1 c l)<n)↔(decide ((0:Int)<((y3.r.length:Nat):Int)) || decide ((necA (pkB kind z1 c l):Int)<(n:Int)))=true:=by rw[Bool.or_eq_true,decide_eq_true_eq,decide_eq_true_eq];rw[<-List.length_pos_iff];omega
  simp only[e]
 rw[hdY];obtain⟨Y,hY⟩:∃Y,(if dd then y3.fail 5 else y3)=Y:=⟨_,rfl⟩
 rw[hY];have ER2:=fun W (h:CsAt W cb s Y)=>q3gp h;have NE:=fun B a W (h:CsS w cb s B y3 (pkB kind z1 c l) a W)=>(q6c0 (pkB kind z1 c l) a W).mono fun e W' hh=>(⟨hh.1,h.below hh.2⟩:_/\CsS w cb s B y3 (pkB kind z1 c l) a W')
 have hnl:=qxhf (pkB kind z1 c l);obtain⟨D,hD⟩:∃D,pkC (pkB kind z1 0 []) adZ=D:=⟨_,rfl⟩
 have hD1:D.size=25:=by rw[<-hD];exact qwmp _ _
 have hD2:D.all (·.oneCell')=true:=by rw[<-hD];exact qmz0 _ _
 have HD:=hid hD;have HD1:=hid hD1;have HD2:=hid hD2;have HZ:=hid qbwp;have hzv:=qrai;have hne:¬pkZ=#[]:=by intro h;have:=qbwp;rw[h] at this;cases this
 have RS0:=hid (heap_alloc_new w (.cells pkZ 38));have G0:=hid (World.grownBy_alloc w (.cells pkZ 38) (some cb));have LT:=hid lt;replace TL3:=hid TL3;have HB:=hid hbb;have HN:=hid hn;have HNL:=hid hnl;have HY:=hid hY;have HDD:=hid hdd;replace NM:=hid NM;replace TL2:=hid TL2;replace ER:=hid ER;replace LF:=hid LF;replace FL:=hid FL;replace ER2:=hid ER2;replace NE:=hid NE;clear hm hm9 h h0 lt hz hzz hbb hn hlen hnl hY hdd hdY ht hD hD1 hD2 hk0 hk1;go_in;go_wp2_with fail;refine(NM.out).mono ?_;rintro e W1 ⟨rfl,hc,hg⟩;have R1:=(hg.block _ (lt_of_block RS0.out) (fun e=>by have:=Option.some.inj e;have:=LT.out;omega)).trans RS0.out;have S1:=hid (CsS.laid LT.out (qo6d G0.out hg) R1 hc HD.out rfl);clear hc hg R1 RS0 G0 NM
 go_upto_region 3 with (first
  |(refine wpList_buildTo rfl 38 _ rfl (some _) rfl D (by rw[<-HD.out];kernel_rfl) ?_)
  |(refine wpList_store_row rfl _ _ _ rfl W1.heap.size D rfl rfl 38 _ (heap_alloc_new W1 _) (by rw[HD1.out];exact q5nr) (by rw[HZ.out,HD1.out]) HD2.out ?_))
 generalize W1.heap.size=B at *;generalize (W1.alloc (.cells pkZ 38)).setRow _ D=W2 at *;clear hzv hne;go_cut [21] (fun s21 wx=>s21=.bool bb/\CsS w cb s B z2 (pkB kind z1 0 []) adZ wx)
 case first=>
  by_cases h5:v=5
  ·subst h5;obtain⟨b0,hb0⟩:∃b,((z2.e:Int)==0)=b:=⟨_,rfl⟩
   have HB1:=HB.out;rw[hb0] at HB1;have HB1:=hid HB1;clear HB;go_wp2_with fail;refine(ER.out _ S1.out.cs).mono ?_;rintro e W3 ⟨rfl,rfl⟩;go_wp2_with fail
   go_meet
   exact⟨by rw[<-HB1.out];rfl,S1.out⟩
  ·have h5':(v==5)=false:=beq_eq_false_iff_ne.2 h5;have HB1:=HB.out;rw[h5'] at HB1;have HB1:=hid HB1;clear HB h5;go_wp2_with fail
   go_meet
   exact⟨by rw[<-HB1.out];rfl,S1.out⟩
 case rest=>
  obtain⟨rfl,hS⟩:=hcut;have S2:=hid hS;clear hS S1 ER HB
  go_upto_if 21 with fail
  go_cut [9] (fun s9 wx=>s9=.int .i64 (n:Int)/\∃a,CsS w cb s B y3 (pkB kind z1 c l) a wx)
  case first=>
   cases bb with
   |true=>
    have TL:=hid (TL2.out rfl);clear TL2 TL3;go_wp2_with fail;refine(TL.out _ _ S2.out).mono ?_;rintro e W3 ⟨rfl,a,hS⟩;have S3:=hid hS;clear hS;go_wp2_with fail
    go_meet
    exact⟨rfl,a,S3.out⟩
   |false=>
    have e:=TL3.out rfl;simp only[Prod.mk.injEq] at e;obtain⟨⟨rfl,rfl,rfl⟩,rfl⟩:=e;clear TL2 TL3;go_wp2_with fail
    go_meet
    exact⟨rfl,adZ,S2.out⟩
  case rest=>
   obtain⟨rfl,a,hS⟩:=hcut;have S3:=hid hS;clear hS S2 TL2 TL3;have NEa:=hid (NE.out B a);have CX:=hid (qwmp (pkB kind z1 c l) a)
   go_upto_region 5 with fail
   go_cut [32] (fun s32 wx=>s32=.bool dd/\CsS w cb s B y3 (pkB kind z1 c l) a wx)
   case first=>
    have LEN:=LF.out _ S3.out.cs;obtain⟨m,hmm⟩:∃m:Int,((y3.r.length:Nat):Int)=m:=⟨_,rfl⟩
    have hm1:0<=m:=by omega
    have hd:=HDD.out;rw[hmm] at LEN hd;replace LEN:=hid LEN;clear hmm HDD;generalize necA (pkB kind z1 c l)=q at *;by_cases hm0:0<m
    ·have g1:decide ((0:Int)<m)=true:=decide_eq_true hm0;rw[g1,Bool.true_or] at hd;have HD3:=hid hd;clear hd hm0 hm1;go_wp2_with fail;refine(LEN.out).mono ?_;rintro e W4 ⟨rfl,k,rfl⟩;have S4:=hid (S3.out.draws k);go_wp2_with fail
     go_meet
     exact⟨by rw[HD3.out],S4.out⟩
    ·obtain rfl:m=0:=by omega
     rw[show decide ((0:Int)<0)=false from rfl,Bool.false_or] at hd;have HD3:=hid hd;clear hd hm0 hm1;have hqn:decide (q<n)=decide ((q:Int)<(n:Int)):=by rw[decide_eq_decide];omega
     have HD4:=hid (hqn.trans HD3.out);clear hqn HD3;have hn:=HN.out;have hnl:=HNL.out;go_wp2_with fail;refine(LEN.out).mono ?_;rintro e W4 ⟨rfl,k,rfl⟩;have S4:=hid (S3.out.draws k);go_wp2_with (refine q2a5 rfl _ _ rfl B rfl 38 _ (0,0) _ S4.out.pk underlying38 rfl (by rw[CX.out];exact q5nr) ?_);refine(NEa.out _ S4.out).mono ?_;rintro e W5 ⟨rfl,hS⟩;have S5:=hid hS;clear hS;go_wp2_with fail
     go_meet
     exact⟨congrArg Value.bool HD4.out,S5.out⟩
   case rest=>
    obtain⟨rfl,hS⟩:=hcut;have S4:=hid hS;clear hS S3 LF NE NEa HN HNL HDD
    go_upto_if 32 with fail
    go_cut [] (fun wx=>CsS w cb s B Y (pkB kind z1 c l) a wx)
    case first=>
     cases dd with
     |true=>
      go_wp2_with fail;refine(FL.out _ S4.out.cs).mono ?_;rintro e W5 ⟨rfl,hc,hg⟩;have S5:=hid (S4.out.call hc hg);clear hc hg;go_wp2_with fail
      go_meet
      rw[<-HY.out];exact S5.out
     |false=>
      go_wp2_with fail
      go_meet
      rw[<-HY.out];exact S4.out
    case rest=>
     have S5:=hid hcut;clear hcut S4 FL;have hx:=qwmp (pkB kind z1 c l) a;have hy:=qmz0 (pkB kind z1 c l) a;have RT:=hid (fun V (h:CsS w cb s B Y (pkB kind z1 c l) a V)=>(show q2i6 w cb (pkB kind z1 c l,Y.e) (.returned (.tuple #[.agg (pkC (pkB kind z1 c l) a),.int .i64 (Y.e:Nat)])) (V.setRow w.heap.size (pkC (pkB kind z1 c l) a)) from
      ⟨a,rfl,h.ps.kept (by simp[World.setRow]) (fun g i e _=>setRow_other V w.heap.size g _ (by have:=h.pf g i e;have:=h.hB;omega)),h.pc,fun g i e=>by have:=h.pf g i e;have:=h.hB;omega,
       ⟨h.g.os,h.g.tape,h.g.output,Nat.le_trans h.g.size (by simp[World.setRow]),fun k hk hne=>(setRow_other V w.heap.size k _ (by omega)).trans (h.g.block k hk hne)⟩⟩))
     have RS5:=hid (fun V (h:CsS w cb s B Y (pkB kind z1 c l) a V)=>setRow_heap V w.heap.size _ (pkC (pkB kind z1 c l) a) _ _ h.rs);obtain⟨C,hC⟩:∃C,pkC (pkB kind z1 c l) a=C:=⟨_,rfl⟩
     rw[hC] at hx hy RT RS5;have HC1:=hid hx;have HC2:=hid hy;have HCC:=hid hC;clear hx hy hC CX
     go_upto_region 7 with fail
     refine q55m (S:=CsS w cb s B Y (pkB kind z1 c l) a) (b:=w.heap.size) (B:=B) (cb:=cb) (f:=(Y.e:Nat)) (C:=C) (S5.out.draws 1) HC1.out HC2.out (by have:=S5.out.hB;omega) (fun V h=>by rw[<-HCC.out];exact h.pk) (fun V h=>⟨_,h.rs,qbwp⟩) (fun V h=>ER2.out V h.cs) (fun V h=>ER2.out _ (h.cs.of_block (setRow_other V w.heap.size cb _ (by have:=h.lt;omega)))) ?_;intro V h;have G:=hid (RS5.out V h);have RTV:=hid (RT.out V h);clear h RT RS5;go_wp2_with fail;exact q8iy (cs:=C) rfl rfl rfl rfl underlying38 rfl (by rw[HC1.out];exact q5nr) G.out RTV.out
end
theorem q22l{v kind:Int}(hk:-9223372036854775808<=kind/\kind<=9223372036854775807)(y:Cs):FitA (qts0 v kind y).1:=by
 unfold qts0;simp only;refine q0yw hk ?_;unfold midB qolc;split
 ·split
  ·exact⟨fun p hp=>(nomatch hp),Nat.zero_le _⟩
  ·split
   ·exact⟨fun p hp=>(nomatch hp),Nat.zero_le _⟩
   ·exact qdz1 _ _
 ·exact⟨fun p hp=>(nomatch hp),Nat.zero_le _⟩
theorem qpbq(v kind:Int)(y:Cs):∃i c l,(qts0 v kind y).1=pkB kind i c l:=⟨_,_,_,rfl⟩
structure KrS(w:World)(B:Nat)(P:Pk)(a:Ad)(W:World):Prop where
 low:Below w.heap.size w W
 rs:W.heap[w.heap.size]?=some (.cells pkZ 38 (0,0))
 hB:w.heap.size<B
 pk:W.heap[B]?=some (.cells (pkC P a) 38 (0,0))
 at_:PkAt W P a
 pf:∀g i,a.ps=some ⟨g,i,none⟩->w.heap.size<g
theorem KrS.call{w W W':World}{B:Nat}{P:Pk}{a:Ad}(h:KrS w B P a W)(hb:Below W.heap.size W W'):KrS w B P a W':=
 ⟨qxh2 h.low hb,(hb.block _ (lt_of_block h.rs)).trans h.rs,h.hB,(hb.block _ (lt_of_block h.pk)).trans h.pk,h.at_.below hb,h.pf⟩
theorem qfe6(v kind:Int)(s:ByteArray)(w:World)(hk0:-9223372036854775808<=kind)(hk1:kind<=9223372036854775807)(hm:s.size<=140737488351232) :
 Calls prog 94 #[.int .i64 v,.int .i64 kind,.string s] w (q2da w (q9uf v kind s.data.toList)):=by
 have KN:=qnzz v kind;have HZ:=hid qbwp;have hzv:=qrai;have hne:¬pkZ=#[]:=by intro h;have:=qbwp;rw[h] at this;cases this
 have PZ:Hid (pkZ.all (·.oneCell')=true):=hid (qmz0 Pk.zero adZ);have R0:=hid (heap_alloc_new w (.cells pkZ 38));have L0:=hid (qybm (w:=w) (.cells pkZ 38));have RZ:=hid (fun(e:Nat) W (hb:Below w.heap.size w W)=>(show q2da w (Pk.zero,e) (.returned (.tuple #[.agg pkZ,.int .i64 (e:Nat)])) (W.setRow w.heap.size pkZ) from⟨adZ,rfl,qa3p _,Nat.zero_le _,qkys,q8xz hb (Nat.le_refl _) _,fun _=>rfl,q16x w⟩));rw[q96o];by_cases hk:(versC v&&qvya kind)=false
 ·rw[if_pos hk];rw[hk] at KN;have KN:=hid KN;clear hk;go_in;go_wp2_with fail;refine(KN.out _).mono ?_;rintro e W ⟨rfl,rfl⟩;go_wp2_with (first
   |(refine wpList_buildTo rfl 38 _ rfl (some _) rfl pkZ (by kernel_rfl) ?_)
   |(refine wpList_store_row rfl _ _ _ rfl w.heap.size pkZ rfl rfl 38 _ R0.out (by rw[HZ.out];exact q5nr) rfl PZ.out ?_))
  refine q8iy (cs:=pkZ) rfl rfl rfl rfl underlying38 rfl (by rw[HZ.out];exact q5nr) (setRow_heap _ _ _ _ _ _ R0.out) ?_;exact RZ.out 2 _ L0.out
 ·rw[if_neg hk];rw[Bool.not_eq_false] at hk;rw[hk] at KN;have KN:=hid KN;have RD:=fun cb W (h:CsAt W cb s ⟨s.data.toList,0⟩)=>q8pc v hk0 hk1 hm h;have FI:=q22l (v:=v) ⟨hk0,hk1⟩ ⟨s.data.toList,0⟩;obtain⟨pi,pc,pl,hpl⟩:=qpbq v kind ⟨s.data.toList,0⟩;obtain⟨z,hz⟩:∃z,qts0 v kind ⟨s.data.toList,0⟩=z:=⟨_,rfl⟩
  rw[hz] at RD FI hpl ⊢;obtain⟨P,Y⟩:=z;simp only at RD FI hpl ⊢;have PT:∀W a,PL W a.ps P.props->PkAt W P a:=fun W a h=>by subst hpl;exact⟨fun e=>absurd rfl e,fun e=>absurd rfl e,fun e=>absurd rfl e,h⟩
  have NL:=hid (show P.wProps=[]/\P.codes=[]/\P.filters=[] by subst hpl;exact⟨rfl,rfl,rfl⟩);obtain⟨f,hf⟩:∃f,Y.e=f:=⟨_,rfl⟩
  rw[hf] at RD ⊢;have VA:=fun a W (h:PkAt W P a) (hc:P.props.length<=a.pc)=>qat7 v P a W h FI.2 FI.1 hc;generalize qryp v P=q at *;obtain⟨R,hR⟩:∃R,(if (if f=0 then q else f)≠0 then(Pk.zero,(if f=0 then q else f)) else(P,0))=R:=⟨_,rfl⟩
  rw[hR];have HR:=hid hR;have HFI:=hid FI;replace RD:=hid RD;replace PT:=hid PT;replace VA:=hid VA;clear hk hz hpl hf hR FI hm;have ZW:=hid (show(w.alloc (.cells pkZ 38)).heap.size=w.heap.size+1 by simp);go_in;go_wp2_with fail;refine(KN.out _).mono ?_;rintro e W ⟨rfl,rfl⟩;generalize w.alloc (.cells pkZ 38)=W0 at *;go_wp2_with fail;refine(q2gu s _).mono ?_;rintro e W1 ⟨rfl,hc,hb1,hz1⟩;have C1:=(show CsAt W1 W0.heap.size s ⟨s.data.toList,0⟩ from⟨0,Nat.zero_le _,hc,by simp⟩)
  replace C1:=hid C1;have L1:=hid (qxh2 L0.out hb1);have R1:=hid ((hb1.block _ (lt_of_block R0.out)).trans R0.out);have Z1:=hid (show W1.heap.size=w.heap.size+2 by rw[hz1,ZW.out]);clear hc hb1 hz1;go_wp2_with fail;refine(RD.out _ _ C1.out).mono ?_;rintro e W2 ⟨a,rfl,p1,p2,p3,hg⟩;have L2:=L1.out.grown hg L1.out.size (fun k e=>by have:=Option.some.inj e;have:=ZW.out;omega);have R2:=(hg.block _ (lt_of_block R1.out) (fun e=>by have:=Option.some.inj e;have:=ZW.out;omega)).trans R1.out;have hbx:Below W2.heap.size W2 ((W2.alloc (.cells pkZ 38)).setRow W2.heap.size (pkC P a)):=q8xz (qybm (w:=W2) (.cells pkZ 38)) (Nat.le_refl _) (pkC P a);have S3:KrS w W2.heap.size P a ((W2.alloc (.cells pkZ 38)).setRow W2.heap.size (pkC P a)):=
   ⟨qxh2 L2 hbx,(hbx.block _ (lt_of_block R2)).trans R2,by have:=hg.size;have:=Z1.out;omega,setRow_heap _ _ _ _ _ _ (heap_alloc_new W2 _),PT.out _ a (p1.below hbx),fun g i e=>by have:=p3 g i e;have:=Z1.out;omega⟩
  have S3:=hid S3;have CP:=hid p2;have hD1:=qwmp P a;have hD2:=qmz0 P a;obtain⟨D,hD⟩:∃D,pkC P a=D:=⟨_,rfl⟩
  rw[hD] at hD1 hD2 S3 ⊢;have HD:=hid hD;have HD1:=hid hD1;have HD2:=hid hD2;have PKD:=hid (fun V (h:KrS w W2.heap.size P a V)=>(by rw[<-hD];exact h.pk:V.heap[W2.heap.size]?=some (.cells D 38 (0,0))));have VAa:=VA.out a;have VAa:=fun V (h:KrS w W2.heap.size P a V)=>(VAa V h.at_ CP.out).mono fun e W' hh=>(⟨hh.1,h.call hh.2⟩:_/\KrS w W2.heap.size P a W')
  rw[hD] at VAa;have VAa:=hid VAa;have FINT:=hid (fun V (h:KrS w W2.heap.size P a V)=>(show q2da w (P,0) (.returned (.tuple #[.agg D,.int .i64 ((0:Nat):Int)])) (V.setRow w.heap.size D) from
   ⟨a,by rw[hD],PT.out _ a (h.at_.ps.kept (by simp[World.setRow]) (fun g i e _=>setRow_other V w.heap.size g _ (by have:=h.pf g i e;omega))),CP.out,HFI.out,q8xz h.low (Nat.le_refl _) _,fun h=>absurd rfl h,qq13 NL.out.1 NL.out.2.1 NL.out.2.2 fun g i e=>by have:=h.pf g i e;omega⟩))
  clear p1 p2 p3 hg L2 R2 hbx hD1 hD2 hD VA PT RD;by_cases hf0:f=0
  ·subst hf0;by_cases hq:q=0
   ·subst hq;have hr:R=(P,0):=by rw[<-HR.out];simp
    subst hr;go_wp2_with (first
     |(refine wpList_store_row rfl _ _ _ rfl W2.heap.size D rfl rfl 38 _ (heap_alloc_new W2 _) (by rw[HD1.out];exact q5nr) (by rw[HZ.out,HD1.out]) HD2.out ?_)
     |(refine wpList_load_row rfl _ _ rfl W2.heap.size rfl 38 D (0,0) _ (PKD.out _ S3.out) underlying38 rfl (by rw[HD1.out];exact q5nr) ?_))
    refine(VAa.out _ S3.out).mono ?_;rintro e W4 ⟨rfl,hS⟩;have S4:=hid hS;have RS4:=hid hS.rs;clear hS;go_wp2_with (first
     |(refine wpList_store_row rfl _ _ _ rfl w.heap.size D rfl rfl 38 _ RS4.out (by rw[HD1.out];exact q5nr) (by rw[HZ.out,HD1.out]) HD2.out ?_)
     |(refine wpList_load_row rfl _ _ rfl W2.heap.size rfl 38 D (0,0) _ (PKD.out _ S4.out) underlying38 rfl (by rw[HD1.out];exact q5nr) ?_))
    exact q8iy (cs:=D) rfl rfl rfl rfl underlying38 rfl (by rw[HD1.out];exact q5nr) (setRow_heap _ _ _ _ _ _ RS4.out) (FINT.out _ S4.out)
   ·have hr:R=(Pk.zero,q):=by rw[<-HR.out];simp[hq]
    subst hr;have q1:((q:Int)==0)=false:=by simp;omega
    have q2:((q:Int) != 0)=true:=by simp;omega
    clear hq;go_wp2_with (first
     |(refine wpList_store_row rfl _ _ _ rfl W2.heap.size D rfl rfl 38 _ (heap_alloc_new W2 _) (by rw[HD1.out];exact q5nr) (by rw[HZ.out,HD1.out]) HD2.out ?_)
     |(refine wpList_load_row rfl _ _ rfl W2.heap.size rfl 38 D (0,0) _ (PKD.out _ S3.out) underlying38 rfl (by rw[HD1.out];exact q5nr) ?_))
    refine(VAa.out _ S3.out).mono ?_;rintro e W4 ⟨rfl,hS⟩;have RS4:=hid hS.rs;have RT:=hid (RZ.out q W4 hS.low);clear hS;go_wp2_with (first
     |(refine wpList_buildTo rfl 38 _ rfl (some _) rfl pkZ (by kernel_rfl) ?_)
     |(refine wpList_store_row rfl _ _ _ rfl w.heap.size pkZ rfl rfl 38 _ RS4.out (by rw[HZ.out];exact q5nr) rfl PZ.out ?_))
    exact q8iy (cs:=pkZ) rfl rfl rfl rfl underlying38 rfl (by rw[HZ.out];exact q5nr) (setRow_heap _ _ _ _ _ _ RS4.out) RT.out
  ·have hr:R=(Pk.zero,f):=by rw[<-HR.out];simp[hf0]
   subst hr;have q1:((f:Int)==0)=false:=by simp;omega
   have q2:((f:Int) != 0)=true:=by simp;omega
   have RS4:=hid S3.out.rs;have RT:=hid (RZ.out f _ S3.out.low);clear hf0;go_wp2_with (first
    |(refine wpList_store_row rfl _ _ _ rfl W2.heap.size D rfl rfl 38 _ (heap_alloc_new W2 _) (by rw[HD1.out];exact q5nr) (by rw[HZ.out,HD1.out]) HD2.out ?_)
    |(refine wpList_buildTo rfl 38 _ rfl (some _) rfl pkZ (by kernel_rfl) ?_)
    |(refine wpList_store_row rfl _ _ _ rfl w.heap.size pkZ rfl rfl 38 _ RS4.out (by rw[HZ.out];exact q5nr) rfl PZ.out ?_))
   exact q8iy (cs:=pkZ) rfl rfl rfl rfl underlying38 rfl (by rw[HZ.out];exact q5nr) (setRow_heap _ _ _ _ _ _ RS4.out) RT.out
section
variable{w W W':World}{cb:Nat}{s:ByteArray}{x y:Cs}{v:Int}{P:Pk}
theorem q563.out{W0:World}{B:Nat}{e:Ending}(h:q563 W0 cb s y P e W)(hcb:cb<w.heap.size)(hB:w.heap.size<=B)(hB2:B<W0.heap.size)(hg:w.grownBy W0 (some cb))(D:Array Value) :
 q563 w cb s y P e (W.setRow B D):=by
 obtain⟨a,he,p1,p2,p3,p4,p5,p6,hc,hG⟩:=h;have hr:=q573 W B D;refine⟨a,he,p1.grown hr (fun g i e=>by have:=p5 g i e;omega),p2,p3.grown hr (fun g i e=>by have:=p6 g i e;omega),p4,fun g i e=>by have:=p5 g i e;omega,fun g i e=>by have:=p6 g i e;omega,?_,qacl (qo6d hg hG) hB _⟩;exact hc.of_block (setRow_other W B cb D (by omega))
theorem qlcv(k:Int)(hk:k=1\/k=2)(hm:s.size<=9223372036854775807)(h:CsAt w cb s x) :
 Calls prog 115 #[rdrV cb v,.int .i64 k] w (q563 w cb s (if k=1 then qnld v x else qx6n v x).2 (if k=1 then qnld v x else qx6n v x).1):=by
 have S0:=hid (RkS.made (v:=v) h);have CO:=fun W (h:CsAt W cb s x)=>q822 (v:=v) hm h;have AC:=fun W (h:CsAt W cb s x)=>qldz (v:=v) hm h;have HZ:=hid qbwp;have hzv:=qrai;have hne:¬pkZ=#[]:=by intro h;have:=qbwp;rw[h] at this;cases this
 have CB:=hid h.lt;unfold rdrV at *;rcases hk with rfl|rfl
 ·rw[if_pos rfl];generalize qnld v x=z at *;obtain⟨P,y⟩:=z;have CO:=hid CO;clear AC h;have ZW:((w.alloc (.cells #[.pointer (some ⟨cb,0,none⟩),.int .i64 v] 155)).alloc (.cells pkZ 38)).heap.size=w.heap.size+2:=by simp
  have ZW:=hid ZW;go_in;have c0:=S0.out.c0;have c1:=S0.out.c1;go_wp2_with fail;refine(CO.out _ S0.out.cs).mono ?_;intro e W1 hR;have hR0:=hR;obtain⟨a,rfl,hr⟩:=hR;have hr1:=hr.2.2.2.2.2.2.2;have GR:=hid ((hr1.block (w.heap.size+1) (by rw[ZW.out];omega) (fun e=>by have:=Option.some.inj e;have:=CB.out;omega)).trans S0.out.rs);have hD1:=qwmp P a;have hD2:=qmz0 P a;obtain⟨D,hD⟩:∃D,pkC P a=D:=⟨_,rfl⟩
  rw[hD] at hD1 hD2 hR0 ⊢;have RT:=hid (hR0.out (B:=w.heap.size+1) CB.out (by omega) (by rw[ZW.out];omega) S0.out.g D);have HD1:=hid hD1;have HD2:=hid hD2;clear hD1 hD2 hD hR0 hr hr1 c0 c1;go_wp2_with (first
   |(refine wpList_store_row rfl _ _ _ rfl (w.heap.size+1) D rfl rfl 38 _ GR.out (by rw[HD1.out];exact q5nr) (by rw[HZ.out,HD1.out]) HD2.out ?_))
  exact q7wi (cs:=D) rfl rfl rfl underlying38 rfl (by rw[HD1.out];exact q5nr) (setRow_heap _ _ _ _ _ _ GR.out) RT.out
 ·rw[if_neg (by decide)];generalize qx6n v x=z at *;obtain⟨P,y⟩:=z;have AC:=hid AC;clear CO h;have ZW:((w.alloc (.cells #[.pointer (some ⟨cb,0,none⟩),.int .i64 v] 155)).alloc (.cells pkZ 38)).heap.size=w.heap.size+2:=by simp
  have ZW:=hid ZW;go_in;have c0:=S0.out.c0;have c1:=S0.out.c1;go_wp2_with fail;refine(AC.out _ S0.out.cs).mono ?_;intro e W1 hR;have hR0:=hR;obtain⟨a,rfl,hr⟩:=hR;have hr1:=hr.2.2.2.2.2.2.2;have GR:=hid ((hr1.block (w.heap.size+1) (by rw[ZW.out];omega) (fun e=>by have:=Option.some.inj e;have:=CB.out;omega)).trans S0.out.rs);have hD1:=qwmp P a;have hD2:=qmz0 P a;obtain⟨D,hD⟩:∃D,pkC P a=D:=⟨_,rfl⟩
  rw[hD] at hD1 hD2 hR0 ⊢;have RT:=hid (hR0.out (B:=w.heap.size+1) CB.out (by omega) (by rw[ZW.out];omega) S0.out.g D);have HD1:=hid hD1;have HD2:=hid hD2;clear hD1 hD2 hD hR0 hr hr1 c0 c1;go_wp2_with (first
   |(refine wpList_store_row rfl _ _ _ rfl (w.heap.size+1) D rfl rfl 38 _ GR.out (by rw[HD1.out];exact q5nr) (by rw[HZ.out,HD1.out]) HD2.out ?_))
  exact q7wi (cs:=D) rfl rfl rfl underlying38 rfl (by rw[HD1.out];exact q5nr) (setRow_heap _ _ _ _ _ _ GR.out) RT.out
structure RrS(w:World)(cb:Nat)(s:ByteArray)(v:Int)(B B2:Nat)(P:Pk)(a:Ad)(y:Cs)(W:World):Prop where
 low:Below w.heap.size w W
 rs:W.heap[w.heap.size]?=some (.cells pkZ 38 (0,0))
 bx:W.heap[B]?=some (.cells #[.pointer (some ⟨cb,0,none⟩),.int .i64 v] 155 (0,0))
 pk:W.heap[B2]?=some (.cells (pkC P a) 38 (0,0))
 cs:CsAt W cb s y
 ps:PL W a.ps P.props
 ws:PL W a.w P.wProps
 c1:w.heap.size<cb
 c2:B≠cb
 c3:B2≠cb
 pf:∀g i,a.ps=some ⟨g,i,none⟩->g≠cb
 wf:∀g i,a.w=some ⟨g,i,none⟩->g≠cb
 pg:∀g i,a.ps=some ⟨g,i,none⟩->g≠w.heap.size
 wg:∀g i,a.w=some ⟨g,i,none⟩->g≠w.heap.size
section
variable{B B2:Nat}{a:Ad}{y':Cs}
theorem RrS.call(h:RrS w cb s v B B2 P a y W)(hc:CsAt W' cb s y')(hg:W.grownBy W' (some cb)):RrS w cb s v B B2 P a y' W':=
 ⟨h.low.grown hg h.low.size (fun k e=>by have:=Option.some.inj e;have:=h.c1;omega),(hg.block _ (lt_of_block h.rs) (fun e=>by have:=Option.some.inj e;have:=h.c1;omega)).trans h.rs,(hg.block _ (lt_of_block h.bx) (fun e=>h.c2 (Option.some.inj e))).trans h.bx,(hg.block _ (lt_of_block h.pk) (fun e=>h.c3 (Option.some.inj e))).trans h.pk,hc,h.ps.grown hg h.pf,h.ws.grown hg h.wf,h.c1,h.c2,h.c3,h.pf,h.wf,h.pg,h.wg⟩
theorem RrS.below(h:RrS w cb s v B B2 P a y W)(hb:Below W.heap.size W W'):RrS w cb s v B B2 P a y W':=h.call (h.cs.below hb) (q9cp hb _)
theorem RrS.drew(h:RrS w cb s v B B2 P a y W):RrS w cb s v B B2 P a y W.drew:=⟨h.low.drew,h.rs,h.bx,h.pk,h.cs,h.ps,h.ws,h.c1,h.c2,h.c3,h.pf,h.wf,h.pg,h.wg⟩
theorem RrS.c0'(h:RrS w cb s v B B2 P a y W):W.cell? ⟨B,0,none⟩=some (.pointer (some ⟨cb,0,none⟩)):=cell_of_row _ _ 0 _ _ _ h.bx
theorem RrS.c1'(h:RrS w cb s v B B2 P a y W):W.cell? ⟨B,1,none⟩=some (.int .i64 v):=cell_of_row _ _ 1 _ _ _ h.bx
end
def qz94(w:World)(R:Pk×Nat)(e:Ending)(W:World):Prop:=
 ∃a:Ad,e=.returned (.tuple #[.agg (pkC R.1 a),.int .i64 (R.2:Nat)])/\PkAt W R.1 a/\PkCap R.1 a/\FitP R.1/\Below w.heap.size w W/\(R.2≠0->a=adZ)/\FrA w R.1 a
theorem qgzg(v k:Int)(s:ByteArray)(w:World)(hm:s.size<=9223372036854775807) :
 Calls prog 90 #[.int .i64 v,.int .i64 k,.string s] w (qz94 w (q56s v k s.data.toList)):=by
 have KN:=q564 v k;have HZ:=hid qbwp;have hzv:=qrai;have hne:¬pkZ=#[]:=by intro h;have:=qbwp;rw[h] at this;cases this
 by_cases hk:(versC v&&(k==1 || k==2))=false
 ·have e:q56s v k s.data.toList=(Pk.zero,2):=by unfold q56s;rw[if_pos hk]
  rw[e];rw[hk] at KN;have KN:=hid KN;have RT:=hid (show qz94 w (Pk.zero,2) (.returned (.tuple #[.agg pkZ,.int .i64 2])) ((w.alloc (.cells pkZ 38)).setRow w.heap.size pkZ) from⟨adZ,rfl,qa3p _,qe1o,qknl,q8xz (qybm _) (Nat.le_refl _) _,fun _=>rfl,q16x w⟩);clear e hk;go_in;go_wp2_with fail;refine(KN.out _).mono ?_;rintro e W ⟨rfl,rfl⟩;go_wp2_with (first
   |(refine wpList_buildTo rfl 38 _ rfl (some 15) rfl pkZ (by kernel_rfl) ?_)
   |(refine wpList_store_row rfl _ _ _ rfl w.heap.size pkZ rfl rfl 38 _ (heap_alloc_new w _) (by rw[HZ.out];exact q5nr) rfl (show pkZ.all (·.oneCell')=true from qmz0 Pk.zero adZ) ?_))
  refine q8iy (cs:=pkZ) rfl rfl rfl rfl underlying38 rfl (by rw[HZ.out];exact q5nr) (setRow_heap _ _ _ _ _ _ (heap_alloc_new w _)) ?_;exact RT.out
 ·rw[Bool.not_eq_false] at hk;have hk12:k=1\/k=2:=by simp only[Bool.and_eq_true,Bool.or_eq_true,beq_iff_eq] at hk;exact hk.2
  rw[hk] at KN;have KN:=hid KN;have PA:=fun cb x W (h:CsAt W cb s x)=>qlcv (v:=v) k hk12 hm h;have FI:FitP (if k=1 then qnld v ⟨s.data.toList,0⟩ else qx6n v ⟨s.data.toList,0⟩).1:=by split;exact q553 v _;exact qx14 v _
  have e:q56s v k s.data.toList=(let x:=if k=1 then qnld v ⟨s.data.toList,0⟩ else qx6n v ⟨s.data.toList,0⟩
   let z:=(if (x.2.r.length:Int)==0 then x.2 else x.2.fail 5).fail (validC v x.1)
   if z.e≠0 then(Pk.zero,z.e) else(x.1,0)):=by
   unfold q56s;rw[if_neg (by rw[hk];decide)];simp only[qz9v];have h0:∀l:List UInt8,(((l.length:Int)==0)=false)=(l≠[]):=fun l=>by cases l<;>simp;omega
   simp only[h0]
  rw[e];have PA:=fun cb W h=>PA cb ⟨s.data.toList,0⟩ W h;generalize (if k=1 then qnld v ⟨s.data.toList,0⟩ else qx6n v ⟨s.data.toList,0⟩)=z at *;obtain⟨P,y⟩:=z;simp only at FI PA ⊢;have RQ:=fun(cb:Nat) W (h:CsAt W cb s y)=>qr75 (v:=v) ((y.r.length:Int)==0) 5 h;obtain⟨b,hb⟩:∃b,((y.r.length:Int)==0)=b:=⟨_,rfl⟩
  rw[hb] at RQ ⊢;obtain⟨y2,hy2⟩:∃z,(if b=true then y else y.fail 5)=z:=⟨_,rfl⟩
  rw[hy2] at RQ ⊢;obtain⟨R,hR⟩:∃R,(if (y2.fail (validC v P)).e≠0 then(Pk.zero,(y2.fail (validC v P)).e) else(P,0))=R:=⟨_,rfl⟩
  rw[hR];have HR:=hid hR;have hyr:y2.r=y.r:=by
   rw[<-hy2];cases b
   ·rw[if_neg (by decide)];unfold Cs.fail;split<;>rfl
   ·rfl
  have HYR:=hid hyr;have VA:=fun(a:Ad) W (h:PkAt W P a) (hc:PkCap P a)=>qspo v P a W h FI.2.1 FI.1 hc;have HFI:=hid FI;have HB:=hid hb;have PA:=hid PA;have RQ:=hid RQ;have VA:=hid VA;have ER:=hid (fun(cb:Nat) W (h:CsAt W cb s y2)=>q3gp h);have LF:=hid (fun(cb:Nat) W (h:CsAt W cb s y)=>qjtm hm h);have HM:=hid hm;unfold rdrV at *;clear hk e hb hy2 hR FI hm hyr;have ZW:(w.alloc (.cells pkZ 38)).heap.size=w.heap.size+1:=by simp
  have ZW:=hid ZW;have RS0:=hid (heap_alloc_new w (.cells pkZ 38));have L0:=hid (qybm (w:=w) (.cells pkZ 38));go_in;go_wp2_with fail;refine(KN.out _).mono ?_;rintro e W ⟨rfl,rfl⟩;generalize w.alloc (.cells pkZ 38)=W0 at *;go_wp2_with fail;refine(q2gu s _).mono ?_;rintro e W1 ⟨rfl,hc,hb1,hz1⟩;have C1:=(show CsAt W1 W0.heap.size s ⟨s.data.toList,0⟩ from⟨0,Nat.zero_le _,hc,by simp⟩)
  rw[ZW.out] at C1;have C1:=hid C1;have L1:=hid (qxh2 L0.out hb1);have R1:=hid ((hb1.block _ (lt_of_block RS0.out)).trans RS0.out);have Z1:=hid (show W1.heap.size=w.heap.size+2 by rw[hz1,ZW.out]);clear hc hb1 hz1;have CX:=hid (C1.out.alloc (.cells #[.pointer (some ⟨w.heap.size+1,0,none⟩),.int .i64 v] 155));have BX:=hid (heap_alloc_new W1 (.cells #[.pointer (some ⟨w.heap.size+1,0,none⟩),.int .i64 v] 155));have LX:=hid (qxh2 L1.out (qybm (.cells #[.pointer (some ⟨w.heap.size+1,0,none⟩),.int .i64 v] 155)));have RX:=hid ((heap_alloc_old W1 (.cells #[.pointer (some ⟨w.heap.size+1,0,none⟩),.int .i64 v] 155) (lt_of_block R1.out)).trans R1.out);have ZX:=hid (World.size_alloc W1 (.cells #[.pointer (some ⟨w.heap.size+1,0,none⟩),.int .i64 v] 155));go_wp2_with fail;refine(PA.out _ _ CX.out).mono ?_;rintro e W2 ⟨a,rfl,p1,p2,p3,p4,p5,p6,hc,hg⟩;have L2:=LX.out.grown hg LX.out.size (fun k e=>by have:=Option.some.inj e;omega);have R2:=(hg.block _ (lt_of_block RX.out) (fun e=>by have:=Option.some.inj e;omega)).trans RX.out;have B2:=(hg.block _ (lt_of_block BX.out) (fun e=>by have:=Option.some.inj e;have:=Z1.out;omega)).trans BX.out;have hD1:=qwmp P a;have hD2:=qmz0 P a;have Z2:w.heap.size+3<=W2.heap.size:=by have:=hg.size;have:=ZX.out;have:=Z1.out;omega
  have hbx:=qybm (w:=W2) (.cells pkZ 38);have hR3:∀g,g<W2.heap.size->((W2.alloc (.cells pkZ 38)).setRow W2.heap.size (pkC P a)).heap[g]?=W2.heap[g]? := fun g hg=>(setRow_other _ _ _ _ (by omega)).trans (heap_alloc_old _ _ hg);have S3:RrS w (w.heap.size+1) s v W1.heap.size W2.heap.size P a y ((W2.alloc (.cells pkZ 38)).setRow W2.heap.size (pkC P a)):=
   ⟨q8xz (L2.trans (hbx.mono L2.size)) (by omega) _,(hR3 _ (by omega)).trans R2,(hR3 _ (by have:=Z1.out;omega)).trans B2,setRow_heap _ _ _ _ _ _ (heap_alloc_new W2 _),hc.of_block (hR3 _ hc.lt),
    p1.kept (by simp[World.setRow]) (fun g i e h=>hR3 g h),p3.kept (by simp[World.setRow]) (fun g i e h=>hR3 g h),by omega,by have:=Z1.out;omega,by omega,fun g i e=>by have:=p5 g i e;have:=ZX.out;have:=Z1.out;omega,fun g i e=>by have:=p6 g i e;have:=ZX.out;have:=Z1.out;omega,
    fun g i e=>by have:=p5 g i e;have:=ZX.out;have:=Z1.out;omega,fun g i e=>by have:=p6 g i e;have:=ZX.out;have:=Z1.out;omega⟩
  have S3:=hid S3;have CP:=hid (PkCap.mk (p:=P) (a:=a) p2 p4 HFI.out.2.2.1);obtain⟨D,hD⟩:∃D,pkC P a=D:=⟨_,rfl⟩
  rw[hD] at hD1 hD2 S3 ⊢;have HD:=hid hD;have HD1:=hid hD1;have HD2:=hid hD2;have PT:∀(y':Cs) W,RrS w (w.heap.size+1) s v W1.heap.size W2.heap.size P a y' W->PkAt W P a:=fun y' W h=>⟨h.ws,by rw[HFI.out.2.2.2.1];exact fun e=>absurd rfl e,by rw[HFI.out.2.2.2.2];exact fun e=>absurd rfl e,h.ps⟩
  have PT:=hid PT;have FA:=hid (show FrA w P a by
   rintro g i (⟨_,e⟩|⟨e,-⟩|⟨e,-⟩|e)
   ·have:=p6 g i e;have:=ZX.out;have:=Z1.out;omega
   ·exact absurd HFI.out.2.2.2.1 e
   ·exact absurd HFI.out.2.2.2.2 e
   ·have:=p5 g i e;have:=ZX.out;have:=Z1.out;omega)
  clear hc hg p1 p2 p3 p4 p5 p6 L2 R2 B2 hD hD1 hD2 Z2 hbx hR3
  go_upto_region 5 with (refine wpList_store_row rfl _ _ _ rfl W2.heap.size D rfl rfl 38 _ (heap_alloc_new W2 _) (by rw[HD1.out];exact q5nr) (by rw[HZ.out,HD1.out]) HD2.out ?_)
  refine qwvm (S:=fun u W=>RrS w (w.heap.size+1) s v W1.heap.size W2.heap.size P a (if u=true then y2 else y) W) (B:=W1.heap.size) (n:=(y.r.length:Int)) (b:=b) S3.out.drew (fun u W h=>h.c0') (fun u W h=>h.c1') HB.out (fun u W h=>by
   cases u
   ·exact(LF.out _ W h.cs).mono fun e w' ⟨he,n,hn⟩=>⟨he,hn▸h.below (qnpu (Below.refl _ _) n)⟩
   ·have hl:=h.cs
    have:=qjtm (s:=s) (by have:=S3.out.cs;exact HM.out) hl
    rw[if_pos rfl,HYR.out] at this;exact this.mono fun e w' ⟨he,n,hn⟩=>⟨he,hn▸h.below (qnpu (Below.refl _ _) n)⟩) (fun u W h hu=>by
   subst hu;exact(RQ.out _ W h.cs).mono fun e w' ⟨he,hc,hg⟩=>⟨he,h.call hc hg⟩) ?_
  intro W5 hS;have S5:=hid (show RrS w (w.heap.size+1) s v W1.heap.size W2.heap.size P a y2 W5 from hS);clear hS S3;have c0:=S5.out.c0';have c1:=S5.out.c1';go_wp2_with fail;refine(ER.out _ _ S5.out.cs).mono ?_;rintro e W6 ⟨rfl,rfl⟩;have P5:=S5.out.pk;rw[HD.out] at P5;have P5:=hid P5;clear c0 c1;by_cases he:y2.e=0
  ·have hr:=HR.out;have hr2:R=if validC v P≠0 then(Pk.zero,validC v P) else(P,0):=by
    rw[<-hr]
    have:(y2.fail (validC v P)).e=validC v P:=by unfold Cs.fail;rw[if_neg (by simpa using he)]
    rw[this]
   rw[he];have HRb:=hid hr2;generalize validC v P=V at *;clear hr hr2 HR he;go_wp2_with (refine wpList_load_row rfl _ _ rfl W2.heap.size rfl 38 D (0,0) _ P5.out underlying38 rfl (by rw[HD1.out];exact q5nr) ?_);have VX:=VA.out a W5 (PT.out _ _ S5.out) CP.out;unfold pkV at VX;rw[HD.out] at VX;refine VX.mono ?_;rintro e W7 ⟨rfl,hb7⟩;have S7:=hid (S5.out.below hb7);have P7:=S7.out.pk;rw[HD.out] at P7;have P7:=hid P7;clear VX hb7;by_cases hV:V=0
   ·have HRa:=hid (show R=(P,0) by rw[HRb.out,if_neg (by simpa using hV)]);subst hV;clear HRb;go_wp2_with (first
     |(refine wpList_load_row rfl _ _ rfl W2.heap.size rfl 38 D (0,0) _ P7.out underlying38 rfl (by rw[HD1.out];exact q5nr) ?_)
     |(refine wpList_store_row rfl _ _ _ rfl w.heap.size D rfl rfl 38 _ S7.out.rs (by rw[HD1.out];exact q5nr) (by rw[HZ.out,HD1.out]) HD2.out ?_))
    refine q8iy (cs:=D) rfl rfl rfl rfl underlying38 rfl (by rw[HD1.out];exact q5nr) (setRow_heap _ _ _ _ _ _ S7.out.rs) ?_;rw[HRa.out];have hr:=q573 W7 w.heap.size D;have hA:=PT.out _ _ S7.out;exact⟨a,by rw[HD.out];rfl,⟨hA.w.grown hr S7.out.wg,by rw[HFI.out.2.2.2.1];exact fun e=>absurd rfl e,by rw[HFI.out.2.2.2.2];exact fun e=>absurd rfl e,hA.ps.grown hr S7.out.pg⟩,CP.out,HFI.out,q8xz S7.out.low (Nat.le_refl _) _,fun h=>absurd rfl h,FA.out⟩
   ·have HRa:=hid (show R=(Pk.zero,V) by rw[HRb.out,if_pos hV]);have hv1:((V:Int)==0)=false:=by simp;omega
    have hv2:((V:Int) != 0)=true:=by simp;omega
    clear HRb hV;go_wp2_with (first
     |(refine wpList_buildTo rfl 38 _ rfl (some 39) rfl pkZ (by kernel_rfl) ?_)
     |(refine wpList_store_row rfl _ _ _ rfl w.heap.size pkZ rfl rfl 38 _ S7.out.rs (by rw[HZ.out];exact q5nr) rfl (show pkZ.all (·.oneCell')=true from qmz0 Pk.zero adZ) ?_))
    refine q8iy (cs:=pkZ) rfl rfl rfl rfl underlying38 rfl (by rw[HZ.out];exact q5nr) (setRow_heap _ _ _ _ _ _ S7.out.rs) ?_;rw[HRa.out];exact⟨adZ,rfl,qa3p _,qe1o,qknl,q8xz S7.out.low (Nat.le_refl _) _,fun _=>rfl,q16x w⟩
  ·have hr:=HR.out;have hr2:R=(Pk.zero,y2.e):=by
    rw[<-hr]
    have:(y2.fail (validC v P)).e=y2.e:=by unfold Cs.fail;rw[if_pos he]
    rw[this,if_pos he]
   have HRa:=hid hr2;have hv1:((y2.e:Int)==0)=false:=by simp;omega
   have hv2:((y2.e:Int) != 0)=true:=by simp;omega
   clear hr hr2 HR he;go_wp2_with (first
    |(refine wpList_buildTo rfl 38 _ rfl (some 39) rfl pkZ (by kernel_rfl) ?_)
    |(refine wpList_store_row rfl _ _ _ rfl w.heap.size pkZ rfl rfl 38 _ S5.out.rs (by rw[HZ.out];exact q5nr) rfl (show pkZ.all (·.oneCell')=true from qmz0 Pk.zero adZ) ?_))
   refine q8iy (cs:=pkZ) rfl rfl rfl rfl underlying38 rfl (by rw[HZ.out];exact q5nr) (setRow_heap _ _ _ _ _ _ S5.out.rs) ?_;rw[HRa.out];exact⟨adZ,rfl,qa3p _,qe1o,qknl,q8xz S5.out.low (Nat.le_refl _) _,fun _=>rfl,q16x w⟩
end
theorem qae8{v:Int}{p:Pk}(h:qryp v p=0):rawA v p=if necA p=0 then be p.id.toNat 2 else if necA p=1 then be p.id.toNat 2++be p.code.toNat 1 else be p.id.toNat 2++be p.code.toNat 1++(q5aq p.kind p.props).1:=by
 obtain⟨h0,hr⟩:=q858 h;obtain⟨hv,_,_,h4,_⟩:=ok_a h0;have ho:∀k:Nat,be k 1=[UInt8.ofNat k]:=fun k=>by simp[be]
 unfold rawA qzno necA;by_cases hp:p.props=[]
 ·by_cases hc:p.code=0
  ·simp[hp,hc]
  ·have h5:v=5:=by
    rcases hv with e|e
    ·exact absurd (h4 e).1 hc
    ·exact e
   simp[hp,hc,h5,ho]
 ·have h5:v=5:=by
   rcases hv with e|e
   ·exact absurd (h4 e).2 hp
   ·exact e
  simp[hp,h5,ho]
def qgce(x y z:ByteArray):Prop:=x++y=z/\¬9223372036854775807<x.size+y.size
def q51a(n:Nat):Prop:=(n:Int)<65536
theorem q9ca(v:Int)(p:Pk)(a:Ad)(w:World)(hp:PkAt w p a)(sp:q21o p)(ok:PkOk p)(hc:p.props.length<=a.pc) :
 Calls prog 93 #[.int .i64 v,.agg (pkC p a)] w fun e w'=>e=.returned (.tuple #[.string (bs (q04h v p).1),.int .i64 ((q04h v p).2:Nat)])/\Below w.heap.size w w':=by
 have S0:=hid (BxS.made w p a);have C1:=hid (qwmp p a);have VA:=fun W (h:BxS w p a W)=>(qat7 v p a W (hp.below h.low) sp ok hc).mono fun e W' hh=>(⟨hh.1,h.call hh.2⟩:_/\BxS w p a W')
 unfold q04h;by_cases hv:qryp v p=0
 ·rw[if_neg (by simpa using hv),qae8 hv];rw[hv] at VA;have NE:=hid (fun W (h:BxS w p a W)=>(q6c0 p a W).mono fun e W' hh=>(⟨hh.1,h.call hh.2⟩:_/\BxS w p a W'));obtain⟨ho,hr⟩:=q858 hv;obtain⟨h45,-,-,h4,hi,hm⟩:=ok_a ho;obtain⟨hc0,hc1⟩:=qaiv hm;have hvp:qpyu p.kind p.props=0:=by
   rw[<-hr];unfold rightC;by_cases h5:v=5
   ·rw[if_pos h5]
   ·rw[if_neg h5,(h4 (by omega)).2];rfl
  have lt:=qp2i (v:=5) (kind:=p.kind) (l:=p.props) (by unfold rightC;rw[if_pos rfl];exact hvp);rw[tailC,if_pos rfl] at lt;have BY:=fun W (h:BxS w p a W)=>(qs01 p.kind a.ps p.props.length a.pc p.props W ok.kind.1 ok.kind.2 (hp.below h.low).ps rfl hc (fun x hx=>(ok.pps x hx).1)).mono fun e W' hh=>(⟨hh.1,h.call hh.2⟩:_/\BxS w p a W')
  generalize (q5aq p.kind p.props).2=g at *;generalize (q5aq p.kind p.props).1=T at *;obtain⟨n,hn⟩:∃n:Nat,p.id=n:=⟨p.id.toNat,by omega⟩
  obtain⟨c,hcc⟩:∃n:Nat,p.code=n:=⟨p.code.toNat,by omega⟩
  have hn2:(n:Int)<65536:=by omega
  have hc2:(c:Int)<256:=by omega
  have PU:=hid (fun(k s:Nat) (hk:k<65536) W (h:BxS w p a W)=>(qe3g k s W (by omega)).mono fun e W' hh=>(⟨hh.1,h.call hh.2⟩:_/\BxS w p a W'));have PI:=PU.out n 2 (by omega);have PC:=PU.out c 1 (by omega);rw[show((min ((2:Nat):Int) 16).toNat)=2 from rfl] at PI;rw[show((min ((1:Nat):Int) 16).toNat)=1 from rfl] at PC;have K0:=hid (fun W (h:BxS w p a W)=>(h.cell 0:W.cell? ⟨w.heap.size,0,none⟩=some (.int .i64 p.kind)));have K4:∀W,BxS w p a W->W.cell? ⟨w.heap.size,4,none⟩=some (.int .i64 p.id):=fun W h=>h.cell 4;have K21:∀W,BxS w p a W->W.cell? ⟨w.heap.size,21,none⟩=some (.int .i64 p.code):=fun W h=>h.cell 21;have K24:=hid (fun W (h:BxS w p a W)=>(h.cell 24:W.cell? ⟨w.heap.size,24,none⟩=some (.slice a.ps p.props.length a.pc)));rw[hn] at K4;rw[hcc] at K21;rw[hn,hcc,Int.toNat_natCast,Int.toNat_natCast];have e1:bs (be n 2)++bs (be c 1)=bs (be n 2++be c 1):=qyv7 _ _;have e2:bs (be n 2++be c 1)++bs T=bs (be n 2++be c 1++T):=qyv7 _ _;have s1:(bs (be n 2++be c 1)).size<=9223372036854775807:=by rw[q5zk,List.length_append,q0rl,q0rl];omega
  have s2:(bs (be n 2++be c 1++T)).size<=9223372036854775807:=by rw[q5zk,List.length_append,List.length_append,q0rl,q0rl];omega
  generalize hx1:bs (be n 2)=X1 at *;generalize hx2:bs (be c 1)=X2 at *;generalize hx3:bs (be n 2++be c 1)=X3 at *;generalize hx4:bs T=X4 at *;generalize hx5:bs (be n 2++be c 1++T)=X5 at *;have E1:qgce X1 X2 X3:=⟨e1,by rw[<-ByteArray.size_append,e1];omega⟩
  have E2:qgce X3 X4 X5:=⟨e2,by rw[<-ByteArray.size_append,e2];omega⟩
  replace VA:=hid VA;replace BY:=hid BY;replace PI:=hid PI;replace PC:=hid PC;replace K4:=hid K4;replace K21:=hid K21;have HN:q51a n:=hn2;have HC:q51a c:=show(c:Int)<65536 by omega
  clear hn2 hc2;have hk:=qxhf p;clear hp sp ok hc hv ho hr h45 h4 hi hm hc0 hc1 hvp lt PU s1 s2 hn hcc e1 e2;rcases hk with hk|hk|hk
  ·rw[hk] at NE ⊢;rw[if_pos rfl,hx1];clear hx1 hx2 hx3 hx4 hx5;go_in;go_wp2_with (refine wpList_load_row rfl _ _ rfl w.heap.size rfl 38 _ (0,0) _ S0.out.box underlying38 rfl (by rw[C1.out];exact q5nr) ?_);refine(VA.out _ S0.out).mono ?_;rintro e W ⟨rfl,hb⟩;have S1:=hid hb;have k4:W.cell? ⟨w.heap.size,4,none⟩=some (.int .i64 n):=K4.out W S1.out;have hn2:(n:Int)<65536:=HN;clear hb S0;go_wp2_with fail;refine(PI.out _ S1.out).mono ?_;rintro e W2 ⟨rfl,hb⟩;have S2:=hid hb;clear hb S1 k4 hn2;go_wp2_with (refine wpList_load_row rfl _ _ rfl w.heap.size rfl 38 _ (0,0) _ S2.out.box underlying38 rfl (by rw[C1.out];exact q5nr) ?_);refine(NE.out _ S2.out).mono ?_;rintro e W3 ⟨rfl,hb⟩;have LO:=hid hb.low;clear hb;go_wp2
   go_ret2
   exact⟨rfl,LO.out⟩
  ·rw[hk] at NE ⊢;rw[if_neg (by decide),if_pos rfl,hx3];clear hx1 hx2 hx3 hx4 hx5;go_in;go_wp2_with (refine wpList_load_row rfl _ _ rfl w.heap.size rfl 38 _ (0,0) _ S0.out.box underlying38 rfl (by rw[C1.out];exact q5nr) ?_);refine(VA.out _ S0.out).mono ?_;rintro e W ⟨rfl,hb⟩;have S1:=hid hb;have k4:W.cell? ⟨w.heap.size,4,none⟩=some (.int .i64 n):=K4.out W S1.out;have hn2:(n:Int)<65536:=HN;clear hb S0;go_wp2_with fail;refine(PI.out _ S1.out).mono ?_;rintro e W2 ⟨rfl,hb⟩;have S2:=hid hb;clear hb S1 k4 hn2;go_wp2_with (refine wpList_load_row rfl _ _ rfl w.heap.size rfl 38 _ (0,0) _ S2.out.box underlying38 rfl (by rw[C1.out];exact q5nr) ?_);refine(NE.out _ S2.out).mono ?_;rintro e W3 ⟨rfl,hb⟩;have S3:=hid hb;have k21:W3.cell? ⟨w.heap.size,21,none⟩=some (.int .i64 c):=K21.out W3 S3.out;have hc2:(c:Int)<65536:=HC;clear hb S2;go_wp2_with fail;refine(PC.out _ S3.out).mono ?_;rintro e W4 ⟨rfl,hb⟩;have e1:=E1.1;have t1:=E1.2;have LO:=hid hb.low;clear hb;go_wp2
   go_ret2
   exact⟨rfl,LO.out⟩
  ·rw[hk] at NE ⊢;rw[if_neg (by decide),if_neg (by decide),hx5];clear hx1 hx2 hx3 hx4 hx5;go_in;go_wp2_with (refine wpList_load_row rfl _ _ rfl w.heap.size rfl 38 _ (0,0) _ S0.out.box underlying38 rfl (by rw[C1.out];exact q5nr) ?_);refine(VA.out _ S0.out).mono ?_;rintro e W ⟨rfl,hb⟩;have S1:=hid hb;have k4:W.cell? ⟨w.heap.size,4,none⟩=some (.int .i64 n):=K4.out W S1.out;have hn2:(n:Int)<65536:=HN;clear hb S0;go_wp2_with fail;refine(PI.out _ S1.out).mono ?_;rintro e W2 ⟨rfl,hb⟩;have S2:=hid hb;clear hb S1 k4 hn2;go_wp2_with (refine wpList_load_row rfl _ _ rfl w.heap.size rfl 38 _ (0,0) _ S2.out.box underlying38 rfl (by rw[C1.out];exact q5nr) ?_);refine(NE.out _ S2.out).mono ?_;rintro e W3 ⟨rfl,hb⟩;have S3:=hid hb;have k21:W3.cell? ⟨w.heap.size,21,none⟩=some (.int .i64 c):=K21.out W3 S3.out;have hc2:(c:Int)<65536:=HC;clear hb S2;go_wp2_with fail;refine(PC.out _ S3.out).mono ?_;rintro e W4 ⟨rfl,hb⟩;have e1:=E1.1;have t1:=E1.2;have S4:=hid hb;have k0:W4.cell? ⟨w.heap.size,0,none⟩=some (.int .i64 p.kind):=K0.out W4 S4.out;have k24:W4.cell? ⟨w.heap.size,24,none⟩=some (.slice a.ps p.props.length a.pc):=K24.out W4 S4.out;clear hb S3 k21 hc2;go_wp2_with fail;refine(BY.out _ S4.out).mono ?_;rintro e W5 ⟨rfl,hb⟩;clear t1;have e2:=E2.1;have t2:=E2.2;have LO:=hid hb.low;clear hb;go_wp2
   go_ret2
   exact⟨rfl,LO.out⟩
 ·rw[if_pos hv];generalize qryp v p=R at *;have hr1:((R:Int)==0)=false:=by simp;omega
  have hr2:((R:Int) != 0)=true:=by simp;omega
  replace VA:=hid VA;clear hv hp sp ok hc;go_in;go_wp2_with (refine wpList_load_row rfl _ _ rfl w.heap.size rfl 38 _ (0,0) _ S0.out.box underlying38 rfl (by rw[C1.out];exact q5nr) ?_);refine(VA.out _ S0.out).mono ?_;rintro e W ⟨rfl,hb⟩;have LO:=hid hb.low;clear hb;go_wp2
  go_ret2
  exact⟨rfl,LO.out⟩
def GhS(w:World)(p:Pk)(a:Ad)(K:Nat->Array Value×TypeId)(x:Nat->Option Nat)(W:World):Prop:=
 BxS w p a W/\∀j g,x j=some g->W.heap[g]?=some (.cells (K j).1 (K j).2 (0,0))
section
variable{w W W':World}{p:Pk}{a:Ad}{K:Nat->Array Value×TypeId}{x:Nat->Option Nat}
theorem GhS.call(h:GhS w p a K x W)(hb:Below W.heap.size W W'):GhS w p a K x W':=
 ⟨h.1.call hb,fun j g hg=>(hb.block g (lt_of_block (h.2 j g hg))).trans (h.2 j g hg)⟩
theorem GhS.put(h:GhS w p a K x W)(j:Nat){cs:Array Value}{t:TypeId}(hK:K j=(cs,t)):GhS w p a K (putG x j W.heap.size) (W.alloc (.cells cs t)):=by
 have h1:=h.call (qybm (.cells cs t));refine⟨h1.1,fun i g hg=>?_⟩;unfold putG at hg;cases hi:Nat.beq i j with
 |true=>rw[hi] at hg;obtain rfl:=Option.some.inj hg;obtain rfl:=Nat.eq_of_beq_eq_true hi;rw[hK];exact heap_alloc_new W _
 |false=>rw[hi] at hg;exact h1.2 i g hg
theorem GhS.begin(h:BxS w p a W):GhS w p a K (fun _=>none) W.drew:=⟨h.draw,fun _ _ h=>by cases h⟩
end
theorem q0ut{W:World}{g:Nat}{ls:List (List UInt8)}{cs:Array Value}(h:W.heap[g]?=some (.cells cs 9 (0,0)))(hc:cs=(strs ls).toArray):SR W (some ⟨g,0,none⟩) ls:=fun _=>by subst hc;exact⟨_,_,rfl,lt_of_block h,fun j hj=>by rw[Nat.zero_add];exact(cell_of_row _ _ j _ _ _ h).trans (qx4f ls j hj)⟩
def ackK(b code:Int)(o t:List UInt8):Nat->Array Value×TypeId
 |5=>(#[.int .i64 b,.int .i64 code],3)
 |13=>(#[.string (bs o),.string (bs t)],9)
 |_=>(#[],0)
theorem qqai(v:Int)(p:Pk)(a:Ad)(w:World)(hp:PkAt w p a)(sp:q21o p)(ok:PkOk p)(ca:PkCap p a)(hv:validC v p=0)(hk:p.kind=2) :
 Calls prog 89 #[.int .i64 v,pkV p a] w fun e w'=>e=.returned (.tuple #[.string (bs (rawC v p)),.int .i64 0])/\Below w.heap.size w w':=by
 have S0:=hid (BxS.made w p a);have VA:=fun W (h:BxS w p a W)=>qspo v p a W (hp.below h.low) sp ok ca;rw[hv] at VA;have VA:=hid VA;have C1:=hid (qwmp p a);obtain⟨hok,_,_,_,_,_,hr,_⟩:=qgoi hv;have hc:=((ok_c hok).2.2.2.2.1 hk).1;have hc2:=qp3s hc;obtain⟨b,hb⟩:∃b,(if p.session=true then(1:Int) else 0)=b:=⟨_,rfl⟩
 have hb0:0<=b/\b<256:=by rw[<-hb];split<;>decide
 have hbt:UInt8.ofNat b.toNat=UInt8.ofNat (bitC p.session 1):=by rw[<-hb];unfold bitC;split<;>rfl
 have hraw:rawC v p=[UInt8.ofNat b.toNat,UInt8.ofNat p.code.toNat]++tailC v 2 p.props:=by rw[rawC,if_pos hk,hbt];rfl
 have htl:=qp2i hr;rw[hk] at htl;have KB:∀x W,GhS w p a (ackK b p.code [UInt8.ofNat b.toNat,UInt8.ofNat p.code.toNat] (tailC v 2 p.props)) x W->W.cell? ⟨w.heap.size,20,none⟩=some (.bool p.session)/\W.cell? ⟨w.heap.size,21,none⟩=some (.int .i64 p.code)/\W.cell? ⟨w.heap.size,0,none⟩=some (.int .i64 p.kind)/\W.cell? ⟨w.heap.size,24,none⟩=some (.slice a.ps p.props.length a.pc):=fun x W h=>⟨h.1.cell 20,h.1.cell 21,h.1.cell 0,h.1.cell 24⟩
 have H18:∀(x:Nat->Option Nat) W,GhS w p a (ackK b p.code [UInt8.ofNat b.toNat,UInt8.ofNat p.code.toNat] (tailC v 2 p.props)) x W->Calls prog 109 #[.bool p.session,.int .i64 1] W fun e w'=>e=.returned (.int .i64 b)/\GhS w p a (ackK b p.code [UInt8.ofNat b.toNat,UInt8.ofNat p.code.toNat] (tailC v 2 p.props)) x w':=fun x W h=>by
  have:=qon0 p.session 1 W
  rw[hb] at this;exact this.mono fun e w' ⟨he,hw⟩=>⟨he,hw▸h⟩
 have H22:∀(x:Nat->Option Nat) W,GhS w p a (ackK b p.code [UInt8.ofNat b.toNat,UInt8.ofNat p.code.toNat] (tailC v 2 p.props)) x W->(x 5).isSome=true->Calls prog 108 #[rowN 2 (x 5)] W fun e w'=>e=.returned (.string (bs [UInt8.ofNat b.toNat,UInt8.ofNat p.code.toNat]))/\GhS w p a (ackK b p.code [UInt8.ofNat b.toNat,UInt8.ofNat p.code.toNat] (tailC v 2 p.props)) x w':=fun x W h hx=>by obtain⟨g,hg⟩:=Option.isSome_iff_exists.1 hx;rw[hg];have hr:W.heap[g]?=some (.cells #[.int .i64 b,.int .i64 p.code] 3 (0,0)):=h.2 5 g hg;exact(q9q1 g 2 b p.code W (lt_of_block hr) hb0.1 hb0.2 hc2.1 (by omega) (cell_of_row _ _ 0 _ _ _ hr) (cell_of_row _ _ 1 _ _ _ hr)).mono fun e w' ⟨he,hb⟩=>⟨he,h.call hb⟩
 have H28:∀(x:Nat->Option Nat) W,GhS w p a (ackK b p.code [UInt8.ofNat b.toNat,UInt8.ofNat p.code.toNat] (tailC v 2 p.props)) x W->Calls prog 110 #[.int .i64 v,.int .i64 p.kind,.slice a.ps p.props.length a.pc] W fun e w'=>e=.returned (.string (bs (tailC v 2 p.props)))/\GhS w p a (ackK b p.code [UInt8.ofNat b.toNat,UInt8.ofNat p.code.toNat] (tailC v 2 p.props)) x w':=fun x W h=>by rw[hk];exact(q7sk v 2 a.ps p.props.length a.pc p.props W (by decide) (by decide) (hp.below h.1.low).ps rfl ca.pc (fun y hy=>(ok.pps y hy).1)).mono fun e w' ⟨he,hb⟩=>⟨he,h.call hb⟩
 have H30:∀(x:Nat->Option Nat) W,GhS w p a (ackK b p.code [UInt8.ofNat b.toNat,UInt8.ofNat p.code.toNat] (tailC v 2 p.props)) x W->(x 13).isSome=true->Calls prog 107 #[rowN 2 (x 13)] W fun e w'=>e=.returned (.string (bs (rawC v p)))/\GhS w p a (ackK b p.code [UInt8.ofNat b.toNat,UInt8.ofNat p.code.toNat] (tailC v 2 p.props)) x w':=fun x W h hx=>by
  obtain⟨g,hg⟩:=Option.isSome_iff_exists.1 hx;rw[hg,hraw];have hr:W.heap[g]?=some (.cells #[.string (bs [UInt8.ofNat b.toNat,UInt8.ofNat p.code.toNat]),.string (bs (tailC v 2 p.props))] 9 (0,0)):=h.2 13 g hg
  have:=qils g 0 2 [[UInt8.ofNat b.toNat,UInt8.ofNat p.code.toNat],tailC v 2 p.props] W (q0ut hr rfl) (by simp) (Nat.le_refl _) (by simp;omega) (by simp)
  have e1:[[UInt8.ofNat b.toNat,UInt8.ofNat p.code.toNat],tailC v 2 p.props].flatten=[UInt8.ofNat b.toNat,UInt8.ofNat p.code.toNat]++tailC v 2 p.props:=by simp
  rw[e1] at this;exact this.mono fun e w' ⟨he,hb⟩=>⟨he,h.call hb⟩
 have M5:∀(x:Nat->Option Nat) W,GhS w p a (ackK b p.code [UInt8.ofNat b.toNat,UInt8.ofNat p.code.toNat] (tailC v 2 p.props)) x W->GhS w p a (ackK b p.code [UInt8.ofNat b.toNat,UInt8.ofNat p.code.toNat] (tailC v 2 p.props)) (putG x 5 W.heap.size) (W.alloc (.cells #[.int .i64 b,.int .i64 p.code] 3)):=fun x W h=>h.put 5 rfl;have M13:∀(x:Nat->Option Nat) W,GhS w p a (ackK b p.code [UInt8.ofNat b.toNat,UInt8.ofNat p.code.toNat] (tailC v 2 p.props)) x W->GhS w p a (ackK b p.code [UInt8.ofNat b.toNat,UInt8.ofNat p.code.toNat] (tailC v 2 p.props)) (putG x 13 W.heap.size) (W.alloc (.cells #[.string (bs [UInt8.ofNat b.toNat,UInt8.ofNat p.code.toNat]),.string (bs (tailC v 2 p.props))] 9)):=fun x W h=>h.put 13 rfl;have BE:∀W,BxS w p a W->GhS w p a (ackK b p.code [UInt8.ofNat b.toNat,UInt8.ofNat p.code.toNat] (tailC v 2 p.props)) (fun _=>none) W.drew:=fun W h=>GhS.begin h;have LO:∀x W,GhS w p a (ackK b p.code [UInt8.ofNat b.toNat,UInt8.ofNat p.code.toNat] (tailC v 2 p.props)) x W->Below w.heap.size w W:=fun x W h=>h.1.low;generalize GhS w p a (ackK b p.code [UInt8.ofNat b.toNat,UInt8.ofNat p.code.toNat] (tailC v 2 p.props))=S at *;have KB:=hid KB;have H18:=hid H18;have H22:=hid H22;have H28:=hid H28;have H30:=hid H30;have M5:=hid M5;have M13:=hid M13;have BE:=hid BE;have LO:=hid LO;have HK:=hid hk;generalize rawC v p=R at *;unfold pkV;clear hp sp ok ca hv hok hr hc hc2 hb hb0 hbt hraw htl;go_in;go_wp2_with (refine wpList_load_row rfl _ _ rfl w.heap.size rfl 38 _ (0,0) _ S0.out.box underlying38 rfl (by rw[C1.out];exact q5nr) ?_);refine(VA.out _ S0.out).mono ?_;rintro e W ⟨rfl,hb⟩;have S1:=hid (S0.out.call hb);clear hb;have k0:W.cell? ⟨w.heap.size,0,none⟩=some (.int .i64 p.kind):=S1.out.cell 0;rw[HK.out] at k0
 go_upto_region 5 with fail
 refine q2ps (S:=S) (B:=w.heap.size) (BE.out _ S1.out) (fun x w h=>(KB.out x w h).2.2.1) (fun x w h=>(KB.out x w h).1) (fun x w h=>(KB.out x w h).2.1) (fun x w h=>(KB.out x w h).2.2.2) M5.out M13.out H18.out H22.out H28.out H30.out ?_;intro x r5 r13 W2 hS;have L2:=hid (LO.out x W2 hS);clear hS;go_wp2
 go_ret2
 exact⟨rfl,L2.out⟩
def conK(v:Int)(F:Nat)(cl wt wp us pa k t tw:List UInt8)(hw hu ha:Bool):Nat->Array Value×TypeId
 |3=>(#[.int .i64 v,.int .i64 F],3)
 |17=>(#[.string (bs cl)],9)
 |32=>(#[.string (bs wt),.string (bs wp)],9)
 |34=>(#[.string (bs tw),.string (bs (enc2 wt++enc2 wp))],9)
 |40=>(#[.string (bs us)],9)
 |42=>(#[.string (bs (enc2 us))],9)
 |48=>(#[.string (bs pa)],9)
 |50=>(#[.string (bs (enc2 pa))],9)
 |52=>(#[.string ⟨#[0,4,77,81,84,84]⟩,.string (bs [UInt8.ofNat v.toNat,UInt8.ofNat F]),.string (bs k),.string (bs t),.string (bs (enc2 cl)),.string (bs (if hw then tw++(enc2 wt++enc2 wp) else [])),.string (bs (if hu then enc2 us else [])),.string (bs (if ha then enc2 pa else []))],9)
 |_=>(#[],0)
theorem qglk{v:Int}{p:Pk}(hv:validC v p=0)(hk:p.kind=1):(v=4\/v=5)/\qc61 p<256/\(0<=p.keep/\p.keep<=65535)/\p.client.length<=65535/\p.user.length<=65535/\p.wTopic.length<=65535/\p.wPayload.length<=65535/\p.pass.length<=65535/\
 (tailC v 1 p.props).length<=300000000/\(tailC v 16 p.wProps).length<=300000000:=by
 obtain⟨hok,h1,h2,h3,h4,h5,hr,hw⟩:=qgoi hv;obtain⟨g1,g2,g3,g4,g5,g6⟩:=ok_c hok;obtain⟨g7,g8,g9⟩:=g6 hk;rw[hk] at hr;refine⟨g1,?_,g8,((qbv6 _).1 h1).1,((qbv6 _).1 h2).1,?_,h4,h5,qp2i hr,qp2i hw⟩
 ·have hq:p.wQos=(p.wQos.toNat:Int):=by omega
  rw[qv7n hk hq (by omega)];exact(qwk3 _ _ _ _ _ (by omega)).1
 ·cases hw:p.hasWill with
  |true=>exact((qbv6 _).1 (qmh4 (h3 hw))).1
  |false=>
   have:p.wTopic=[]:=by rw[g3];unfold qm70;rw[if_neg (by omega)];simp[hw]
   rw[this];decide
theorem qfoi(v:Int)(p:Pk)(a:Ad)(w:World)(hp:PkAt w p a)(sp:q21o p)(ok:PkOk p)(ca:PkCap p a)(hv:validC v p=0)(hk:p.kind=1) :
 Calls prog 89 #[.int .i64 v,pkV p a] w fun e w'=>e=.returned (.tuple #[.string (bs (rawC v p)),.int .i64 0])/\Below w.heap.size w w':=by
 have S0:=hid (BxS.made w p a);have VA:=fun W (h:BxS w p a W)=>qspo v p a W (hp.below h.low) sp ok ca;rw[hv] at VA;have VA:=hid VA;have C1:=hid (qwmp p a);obtain⟨f1,f2,f3,l1,l2,l3,l4,l5,l6,l7⟩:=qglk hv hk;obtain⟨F,hF⟩:∃F,qc61 p=F:=⟨_,rfl⟩
 rw[hF] at f2;have hraw:rawC v p=[[0,4,77,81,84,84],[UInt8.ofNat v.toNat,UInt8.ofNat F],be p.keep.toNat 2,tailC v 1 p.props,enc2 p.client,(if p.hasWill then tailC v 16 p.wProps++(enc2 p.wTopic++enc2 p.wPayload) else []),(if p.hasUser then enc2 p.user else []),(if p.hasPass then enc2 p.pass else [])].flatten:=by
  rw[rawC,if_neg (by omega),hF];have e6:enc2 q1f4=[0,4,77,81,84,84]:=by decide
  rw[e6];simp
 have H33:∀(x:Nat->Option Nat) W,GhS w p a (conK v F p.client p.wTopic p.wPayload p.user p.pass (be p.keep.toNat 2) (tailC v 1 p.props) (tailC v 16 p.wProps) p.hasWill p.hasUser p.hasPass) x W->Calls prog 111 #[.agg (pkC p a)] W fun e w'=>e=.returned (.int .i64 (F:Int))/\GhS w p a (conK v F p.client p.wTopic p.wPayload p.user p.pass (be p.keep.toNat 2) (tailC v 1 p.props) (tailC v 16 p.wProps) p.hasWill p.hasUser p.hasPass) x w':=fun x W h=>by
  have:=qdq7 p a W
  rw[hF] at this;exact this.mono fun e w' ⟨he,hb⟩=>⟨he,h.call hb⟩
 have H35:∀(x:Nat->Option Nat) W,GhS w p a (conK v F p.client p.wTopic p.wPayload p.user p.pass (be p.keep.toNat 2) (tailC v 1 p.props) (tailC v 16 p.wProps) p.hasWill p.hasUser p.hasPass) x W->(x 3).isSome=true->Calls prog 108 #[rowN 2 (x 3)] W fun e w'=>e=.returned (.string (bs [UInt8.ofNat v.toNat,UInt8.ofNat F]))/\GhS w p a (conK v F p.client p.wTopic p.wPayload p.user p.pass (be p.keep.toNat 2) (tailC v 1 p.props) (tailC v 16 p.wProps) p.hasWill p.hasUser p.hasPass) x w':=fun x W h hx=>by
  obtain⟨g,hg⟩:=Option.isSome_iff_exists.1 hx;rw[hg];have hr:W.heap[g]?=some (.cells #[.int .i64 v,.int .i64 F] 3 (0,0)):=h.2 3 g hg
  have:=q9q1 g 2 v F W (lt_of_block hr) (by omega) (by omega) (by omega) (by omega) (cell_of_row _ _ 0 _ _ _ hr) (cell_of_row _ _ 1 _ _ _ hr)
  rw[Int.toNat_natCast] at this;exact this.mono fun e w' ⟨he,hb⟩=>⟨he,h.call hb⟩
 have H39:∀(x:Nat->Option Nat) W,GhS w p a (conK v F p.client p.wTopic p.wPayload p.user p.pass (be p.keep.toNat 2) (tailC v 1 p.props) (tailC v 16 p.wProps) p.hasWill p.hasUser p.hasPass) x W->Calls prog 72 #[.int .u64 p.keep,.int .i64 2] W fun e w'=>e=.returned (.string (bs (be p.keep.toNat 2)))/\GhS w p a (conK v F p.client p.wTopic p.wPayload p.user p.pass (be p.keep.toNat 2) (tailC v 1 p.props) (tailC v 16 p.wProps) p.hasWill p.hasUser p.hasPass) x w':=fun x W h=>by
  have:=qe3g p.keep.toNat 2 W (by omega)
  rw[show(min (2:Int) 16).toNat=2 by decide,show((p.keep.toNat:Nat):Int)=p.keep by omega] at this;exact this.mono fun e w' ⟨he,hb⟩=>⟨he,h.call hb⟩
 have H45:∀(x:Nat->Option Nat) W,GhS w p a (conK v F p.client p.wTopic p.wPayload p.user p.pass (be p.keep.toNat 2) (tailC v 1 p.props) (tailC v 16 p.wProps) p.hasWill p.hasUser p.hasPass) x W->Calls prog 110 #[.int .i64 v,.int .i64 p.kind,.slice a.ps p.props.length a.pc] W fun e w'=>e=.returned (.string (bs (tailC v 1 p.props)))/\GhS w p a (conK v F p.client p.wTopic p.wPayload p.user p.pass (be p.keep.toNat 2) (tailC v 1 p.props) (tailC v 16 p.wProps) p.hasWill p.hasUser p.hasPass) x w':=fun x W h=>by rw[hk];exact(q7sk v 1 a.ps p.props.length a.pc p.props W (by decide) (by decide) (hp.below h.1.low).ps rfl ca.pc (fun y hy=>(ok.pps y hy).1)).mono fun e w' ⟨he,hb⟩=>⟨he,h.call hb⟩
 have H49:∀(x:Nat->Option Nat) W,GhS w p a (conK v F p.client p.wTopic p.wPayload p.user p.pass (be p.keep.toNat 2) (tailC v 1 p.props) (tailC v 16 p.wProps) p.hasWill p.hasUser p.hasPass) x W->(x 17).isSome=true->Calls prog 112 #[rowN 1 (x 17)] W fun e w'=>e=.returned (.string (bs (enc2 p.client)))/\GhS w p a (conK v F p.client p.wTopic p.wPayload p.user p.pass (be p.keep.toNat 2) (tailC v 1 p.props) (tailC v 16 p.wProps) p.hasWill p.hasUser p.hasPass) x w':=fun x W h hx=>by obtain⟨g,hg⟩:=Option.isSome_iff_exists.1 hx;rw[hg];have hr:W.heap[g]?=some (.cells #[.string (bs p.client)] 9 (0,0)):=h.2 17 g hg;exact(qyi6 g 1 p.client W (lt_of_block hr) l1 (cell_of_row _ _ 0 _ _ _ hr)).mono fun e w' ⟨he,hb⟩=>⟨he,h.call hb⟩
 have H56:∀(x:Nat->Option Nat) W,GhS w p a (conK v F p.client p.wTopic p.wPayload p.user p.pass (be p.keep.toNat 2) (tailC v 1 p.props) (tailC v 16 p.wProps) p.hasWill p.hasUser p.hasPass) x W->Calls prog 110 #[.int .i64 v,.int .i64 16,.slice a.w p.wProps.length a.wc] W fun e w'=>e=.returned (.string (bs (tailC v 16 p.wProps)))/\GhS w p a (conK v F p.client p.wTopic p.wPayload p.user p.pass (be p.keep.toNat 2) (tailC v 1 p.props) (tailC v 16 p.wProps) p.hasWill p.hasUser p.hasPass) x w':=fun x W h=>by exact(q7sk v 16 a.w p.wProps.length a.wc p.wProps W (by decide) (by decide) (hp.below h.1.low).w rfl ca.wc (fun y hy=>(ok.wps y hy).1)).mono fun e w' ⟨he,hb⟩=>⟨he,h.call hb⟩
 have H64:∀(x:Nat->Option Nat) W,GhS w p a (conK v F p.client p.wTopic p.wPayload p.user p.pass (be p.keep.toNat 2) (tailC v 1 p.props) (tailC v 16 p.wProps) p.hasWill p.hasUser p.hasPass) x W->(x 32).isSome=true->Calls prog 112 #[rowN 2 (x 32)] W fun e w'=>e=.returned (.string (bs (enc2 p.wTopic++enc2 p.wPayload)))/\GhS w p a (conK v F p.client p.wTopic p.wPayload p.user p.pass (be p.keep.toNat 2) (tailC v 1 p.props) (tailC v 16 p.wProps) p.hasWill p.hasUser p.hasPass) x w':=fun x W h hx=>by obtain⟨g,hg⟩:=Option.isSome_iff_exists.1 hx;rw[hg];have hr:W.heap[g]?=some (.cells #[.string (bs p.wTopic),.string (bs p.wPayload)] 9 (0,0)):=h.2 32 g hg;exact(qoy1 g 2 p.wTopic p.wPayload W (lt_of_block hr) l3 l4 (cell_of_row _ _ 0 _ _ _ hr) (cell_of_row _ _ 1 _ _ _ hr)).mono fun e w' ⟨he,hb⟩=>⟨he,h.call hb⟩
 have H66:∀(x:Nat->Option Nat) W,GhS w p a (conK v F p.client p.wTopic p.wPayload p.user p.pass (be p.keep.toNat 2) (tailC v 1 p.props) (tailC v 16 p.wProps) p.hasWill p.hasUser p.hasPass) x W->(x 34).isSome=true->Calls prog 113 #[.bool p.hasWill,rowN 2 (x 34)] W fun e w'=>e=.returned (.string (bs (if p.hasWill then tailC v 16 p.wProps++(enc2 p.wTopic++enc2 p.wPayload) else [])))/\GhS w p a (conK v F p.client p.wTopic p.wPayload p.user p.pass (be p.keep.toNat 2) (tailC v 1 p.props) (tailC v 16 p.wProps) p.hasWill p.hasUser p.hasPass) x w':=fun x W h hx=>by
  obtain⟨g,hg⟩:=Option.isSome_iff_exists.1 hx;rw[hg];have hr:W.heap[g]?=some (.cells #[.string (bs (tailC v 16 p.wProps)),.string (bs (enc2 p.wTopic++enc2 p.wPayload))] 9 (0,0)):=h.2 34 g hg
  have:=q99g p.hasWill g 0 2 [tailC v 16 p.wProps,enc2 p.wTopic++enc2 p.wPayload] W (q0ut hr rfl) (by simp) (Nat.le_refl _) (by simp[qnp6];omega) (by simp)
  rw[show [tailC v 16 p.wProps,enc2 p.wTopic++enc2 p.wPayload].flatten=tailC v 16 p.wProps++(enc2 p.wTopic++enc2 p.wPayload) by simp] at this;exact this.mono fun e w' ⟨he,hb⟩=>⟨he,h.call hb⟩
 have H72:∀(x:Nat->Option Nat) W,GhS w p a (conK v F p.client p.wTopic p.wPayload p.user p.pass (be p.keep.toNat 2) (tailC v 1 p.props) (tailC v 16 p.wProps) p.hasWill p.hasUser p.hasPass) x W->(x 40).isSome=true->Calls prog 112 #[rowN 1 (x 40)] W fun e w'=>e=.returned (.string (bs (enc2 p.user)))/\GhS w p a (conK v F p.client p.wTopic p.wPayload p.user p.pass (be p.keep.toNat 2) (tailC v 1 p.props) (tailC v 16 p.wProps) p.hasWill p.hasUser p.hasPass) x w':=fun x W h hx=>by obtain⟨g,hg⟩:=Option.isSome_iff_exists.1 hx;rw[hg];have hr:W.heap[g]?=some (.cells #[.string (bs p.user)] 9 (0,0)):=h.2 40 g hg;exact(qyi6 g 1 p.user W (lt_of_block hr) l2 (cell_of_row _ _ 0 _ _ _ hr)).mono fun e w' ⟨he,hb⟩=>⟨he,h.call hb⟩
 have H74:∀(x:Nat->Option Nat) W,GhS w p a (conK v F p.client p.wTopic p.wPayload p.user p.pass (be p.keep.toNat 2) (tailC v 1 p.props) (tailC v 16 p.wProps) p.hasWill p.hasUser p.hasPass) x W->(x 42).isSome=true->Calls prog 113 #[.bool p.hasUser,rowN 1 (x 42)] W fun e w'=>e=.returned (.string (bs (if p.hasUser then enc2 p.user else [])))/\GhS w p a (conK v F p.client p.wTopic p.wPayload p.user p.pass (be p.keep.toNat 2) (tailC v 1 p.props) (tailC v 16 p.wProps) p.hasWill p.hasUser p.hasPass) x w':=fun x W h hx=>by
  obtain⟨g,hg⟩:=Option.isSome_iff_exists.1 hx;rw[hg];have hr:W.heap[g]?=some (.cells #[.string (bs (enc2 p.user))] 9 (0,0)):=h.2 42 g hg
  have:=q99g p.hasUser g 0 1 [enc2 p.user] W (q0ut hr rfl) (by simp) (Nat.le_refl _) (by simp[qnp6];omega) (by simp)
  rw[show [enc2 p.user].flatten=enc2 p.user by simp] at this;exact this.mono fun e w' ⟨he,hb⟩=>⟨he,h.call hb⟩
 have H80:∀(x:Nat->Option Nat) W,GhS w p a (conK v F p.client p.wTopic p.wPayload p.user p.pass (be p.keep.toNat 2) (tailC v 1 p.props) (tailC v 16 p.wProps) p.hasWill p.hasUser p.hasPass) x W->(x 48).isSome=true->Calls prog 112 #[rowN 1 (x 48)] W fun e w'=>e=.returned (.string (bs (enc2 p.pass)))/\GhS w p a (conK v F p.client p.wTopic p.wPayload p.user p.pass (be p.keep.toNat 2) (tailC v 1 p.props) (tailC v 16 p.wProps) p.hasWill p.hasUser p.hasPass) x w':=fun x W h hx=>by obtain⟨g,hg⟩:=Option.isSome_iff_exists.1 hx;rw[hg];have hr:W.heap[g]?=some (.cells #[.string (bs p.pass)] 9 (0,0)):=h.2 48 g hg;exact(qyi6 g 1 p.pass W (lt_of_block hr) l5 (cell_of_row _ _ 0 _ _ _ hr)).mono fun e w' ⟨he,hb⟩=>⟨he,h.call hb⟩
 have H82:∀(x:Nat->Option Nat) W,GhS w p a (conK v F p.client p.wTopic p.wPayload p.user p.pass (be p.keep.toNat 2) (tailC v 1 p.props) (tailC v 16 p.wProps) p.hasWill p.hasUser p.hasPass) x W->(x 50).isSome=true->Calls prog 113 #[.bool p.hasPass,rowN 1 (x 50)] W fun e w'=>e=.returned (.string (bs (if p.hasPass then enc2 p.pass else [])))/\GhS w p a (conK v F p.client p.wTopic p.wPayload p.user p.pass (be p.keep.toNat 2) (tailC v 1 p.props) (tailC v 16 p.wProps) p.hasWill p.hasUser p.hasPass) x w':=fun x W h hx=>by
  obtain⟨g,hg⟩:=Option.isSome_iff_exists.1 hx;rw[hg];have hr:W.heap[g]?=some (.cells #[.string (bs (enc2 p.pass))] 9 (0,0)):=h.2 50 g hg
  have:=q99g p.hasPass g 0 1 [enc2 p.pass] W (q0ut hr rfl) (by simp) (Nat.le_refl _) (by simp[qnp6];omega) (by simp)
  rw[show [enc2 p.pass].flatten=enc2 p.pass by simp] at this;exact this.mono fun e w' ⟨he,hb⟩=>⟨he,h.call hb⟩
 have H84:∀(x:Nat->Option Nat) W,GhS w p a (conK v F p.client p.wTopic p.wPayload p.user p.pass (be p.keep.toNat 2) (tailC v 1 p.props) (tailC v 16 p.wProps) p.hasWill p.hasUser p.hasPass) x W->(x 52).isSome=true->Calls prog 107 #[rowN 8 (x 52)] W fun e w'=>e=.returned (.string (bs (rawC v p)))/\GhS w p a (conK v F p.client p.wTopic p.wPayload p.user p.pass (be p.keep.toNat 2) (tailC v 1 p.props) (tailC v 16 p.wProps) p.hasWill p.hasUser p.hasPass) x w':=fun x W h hx=>by
  obtain⟨g,hg⟩:=Option.isSome_iff_exists.1 hx;rw[hg];have hr:W.heap[g]?=some (.cells #[.string ⟨#[0,4,77,81,84,84]⟩,.string (bs [UInt8.ofNat v.toNat,UInt8.ofNat F]),.string (bs (be p.keep.toNat 2)),.string (bs (tailC v 1 p.props)),.string (bs (enc2 p.client)),.string (bs (if p.hasWill then tailC v 16 p.wProps++(enc2 p.wTopic++enc2 p.wPayload) else [])),.string (bs (if p.hasUser then enc2 p.user else [])),.string (bs (if p.hasPass then enc2 p.pass else []))] 9 (0,0)):=h.2 52 g hg;have hz:(if p.hasWill then tailC v 16 p.wProps++(enc2 p.wTopic++enc2 p.wPayload) else []).length<=400000000:=by split<;>simp[qnp6]<;>omega
  have hu:(if p.hasUser then enc2 p.user else []).length<=70000:=by split<;>simp[qnp6]<;>omega
  have ha:(if p.hasPass then enc2 p.pass else []).length<=70000:=by split<;>simp[qnp6]<;>omega
  have hc:(enc2 p.client).length<=70000:=by rw[qnp6];omega
  have hb2:(be p.keep.toNat 2).length=2:=q0rl 2 _;have hl:[[0,4,77,81,84,84],[UInt8.ofNat v.toNat,UInt8.ofNat F],be p.keep.toNat 2,tailC v 1 p.props,enc2 p.client,(if p.hasWill then tailC v 16 p.wProps++(enc2 p.wTopic++enc2 p.wPayload) else []),(if p.hasUser then enc2 p.user else []),(if p.hasPass then enc2 p.pass else [])].flatten.length<=4000000000:=by generalize (if p.hasWill then tailC v 16 p.wProps++(enc2 p.wTopic++enc2 p.wPayload) else [])=z1 at *;generalize (if p.hasUser then enc2 p.user else [])=z2 at *;generalize (if p.hasPass then enc2 p.pass else [])=z3 at *;generalize enc2 p.client=z4 at *;generalize be p.keep.toNat 2=z5 at *;simp;omega
  have:=qils g 0 8 [[0,4,77,81,84,84],[UInt8.ofNat v.toNat,UInt8.ofNat F],be p.keep.toNat 2,tailC v 1 p.props,enc2 p.client,(if p.hasWill then tailC v 16 p.wProps++(enc2 p.wTopic++enc2 p.wPayload) else []),(if p.hasUser then enc2 p.user else []),(if p.hasPass then enc2 p.pass else [])] W (q0ut hr rfl) (by simp) (Nat.le_refl _) hl (by simp)
  rw[<-hraw] at this;exact this.mono fun e w' ⟨he,hb⟩=>⟨he,h.call hb⟩
 have M3:∀(x:Nat->Option Nat) W,GhS w p a (conK v F p.client p.wTopic p.wPayload p.user p.pass (be p.keep.toNat 2) (tailC v 1 p.props) (tailC v 16 p.wProps) p.hasWill p.hasUser p.hasPass) x W->GhS w p a (conK v F p.client p.wTopic p.wPayload p.user p.pass (be p.keep.toNat 2) (tailC v 1 p.props) (tailC v 16 p.wProps) p.hasWill p.hasUser p.hasPass) (putG x 3 W.heap.size) (W.alloc (.cells #[.int .i64 v,.int .i64 (F:Int)] 3)):=fun x W h=>h.put 3 rfl;have M17:∀(x:Nat->Option Nat) W,GhS w p a (conK v F p.client p.wTopic p.wPayload p.user p.pass (be p.keep.toNat 2) (tailC v 1 p.props) (tailC v 16 p.wProps) p.hasWill p.hasUser p.hasPass) x W->GhS w p a (conK v F p.client p.wTopic p.wPayload p.user p.pass (be p.keep.toNat 2) (tailC v 1 p.props) (tailC v 16 p.wProps) p.hasWill p.hasUser p.hasPass) (putG x 17 W.heap.size) (W.alloc (.cells #[.string (bs p.client)] 9)):=fun x W h=>h.put 17 rfl;have M32:∀(x:Nat->Option Nat) W,GhS w p a (conK v F p.client p.wTopic p.wPayload p.user p.pass (be p.keep.toNat 2) (tailC v 1 p.props) (tailC v 16 p.wProps) p.hasWill p.hasUser p.hasPass) x W->GhS w p a (conK v F p.client p.wTopic p.wPayload p.user p.pass (be p.keep.toNat 2) (tailC v 1 p.props) (tailC v 16 p.wProps) p.hasWill p.hasUser p.hasPass) (putG x 32 W.heap.size) (W.alloc (.cells #[.string (bs p.wTopic),.string (bs p.wPayload)] 9)):=fun x W h=>h.put 32 rfl;have M34:∀(x:Nat->Option Nat) W,GhS w p a (conK v F p.client p.wTopic p.wPayload p.user p.pass (be p.keep.toNat 2) (tailC v 1 p.props) (tailC v 16 p.wProps) p.hasWill p.hasUser p.hasPass) x W->GhS w p a (conK v F p.client p.wTopic p.wPayload p.user p.pass (be p.keep.toNat 2) (tailC v 1 p.props) (tailC v 16 p.wProps) p.hasWill p.hasUser p.hasPass) (putG x 34 W.heap.size) (W.alloc (.cells #[.string (bs (tailC v 16 p.wProps)),.string (bs (enc2 p.wTopic++enc2 p.wPayload))] 9)):=fun x W h=>h.put 34 rfl;have M40:∀(x:Nat->Option Nat) W,GhS w p a (conK v F p.client p.wTopic p.wPayload p.user p.pass (be p.keep.toNat 2) (tailC v 1 p.props) (tailC v 16 p.wProps) p.hasWill p.hasUser p.hasPass) x W->GhS w p a (conK v F p.client p.wTopic p.wPayload p.user p.pass (be p.keep.toNat 2) (tailC v 1 p.props) (tailC v 16 p.wProps) p.hasWill p.hasUser p.hasPass) (putG x 40 W.heap.size) (W.alloc (.cells #[.string (bs p.user)] 9)):=fun x W h=>h.put 40 rfl;have M42:∀(x:Nat->Option Nat) W,GhS w p a (conK v F p.client p.wTopic p.wPayload p.user p.pass (be p.keep.toNat 2) (tailC v 1 p.props) (tailC v 16 p.wProps) p.hasWill p.hasUser p.hasPass) x W->GhS w p a (conK v F p.client p.wTopic p.wPayload p.user p.pass (be p.keep.toNat 2) (tailC v 1 p.props) (tailC v 16 p.wProps) p.hasWill p.hasUser p.hasPass) (putG x 42 W.heap.size) (W.alloc (.cells #[.string (bs (enc2 p.user))] 9)):=fun x W h=>h.put 42 rfl;have M48:∀(x:Nat->Option Nat) W,GhS w p a (conK v F p.client p.wTopic p.wPayload p.user p.pass (be p.keep.toNat 2) (tailC v 1 p.props) (tailC v 16 p.wProps) p.hasWill p.hasUser p.hasPass) x W->GhS w p a (conK v F p.client p.wTopic p.wPayload p.user p.pass (be p.keep.toNat 2) (tailC v 1 p.props) (tailC v 16 p.wProps) p.hasWill p.hasUser p.hasPass) (putG x 48 W.heap.size) (W.alloc (.cells #[.string (bs p.pass)] 9)):=fun x W h=>h.put 48 rfl;have M50:∀(x:Nat->Option Nat) W,GhS w p a (conK v F p.client p.wTopic p.wPayload p.user p.pass (be p.keep.toNat 2) (tailC v 1 p.props) (tailC v 16 p.wProps) p.hasWill p.hasUser p.hasPass) x W->GhS w p a (conK v F p.client p.wTopic p.wPayload p.user p.pass (be p.keep.toNat 2) (tailC v 1 p.props) (tailC v 16 p.wProps) p.hasWill p.hasUser p.hasPass) (putG x 50 W.heap.size) (W.alloc (.cells #[.string (bs (enc2 p.pass))] 9)):=fun x W h=>h.put 50 rfl;have M52:∀(x:Nat->Option Nat) W,GhS w p a (conK v F p.client p.wTopic p.wPayload p.user p.pass (be p.keep.toNat 2) (tailC v 1 p.props) (tailC v 16 p.wProps) p.hasWill p.hasUser p.hasPass) x W->GhS w p a (conK v F p.client p.wTopic p.wPayload p.user p.pass (be p.keep.toNat 2) (tailC v 1 p.props) (tailC v 16 p.wProps) p.hasWill p.hasUser p.hasPass) (putG x 52 W.heap.size) (W.alloc (.cells #[.string ⟨#[0,4,77,81,84,84]⟩,.string (bs [UInt8.ofNat v.toNat,UInt8.ofNat F]),.string (bs (be p.keep.toNat 2)),.string (bs (tailC v 1 p.props)),.string (bs (enc2 p.client)),.string (bs (if p.hasWill then tailC v 16 p.wProps++(enc2 p.wTopic++enc2 p.wPayload) else [])),.string (bs (if p.hasUser then enc2 p.user else [])),.string (bs (if p.hasPass then enc2 p.pass else []))] 9)):=fun x W h=>h.put 52 rfl;have K0:∀x W,GhS w p a (conK v F p.client p.wTopic p.wPayload p.user p.pass (be p.keep.toNat 2) (tailC v 1 p.props) (tailC v 16 p.wProps) p.hasWill p.hasUser p.hasPass) x W->W.cell? ⟨w.heap.size,0,none⟩=some (.int .i64 p.kind):=fun x W h=>h.1.cell 0;have K8:∀x W,GhS w p a (conK v F p.client p.wTopic p.wPayload p.user p.pass (be p.keep.toNat 2) (tailC v 1 p.props) (tailC v 16 p.wProps) p.hasWill p.hasUser p.hasPass) x W->W.cell? ⟨w.heap.size,8,none⟩=some (.int .i64 p.keep):=fun x W h=>h.1.cell 8;have K9:∀x W,GhS w p a (conK v F p.client p.wTopic p.wPayload p.user p.pass (be p.keep.toNat 2) (tailC v 1 p.props) (tailC v 16 p.wProps) p.hasWill p.hasUser p.hasPass) x W->W.cell? ⟨w.heap.size,9,none⟩=some (.string (bs p.client)):=fun x W h=>h.1.cell 9;have K10:∀x W,GhS w p a (conK v F p.client p.wTopic p.wPayload p.user p.pass (be p.keep.toNat 2) (tailC v 1 p.props) (tailC v 16 p.wProps) p.hasWill p.hasUser p.hasPass) x W->W.cell? ⟨w.heap.size,10,none⟩=some (.bool p.hasUser):=fun x W h=>h.1.cell 10;have K11:∀x W,GhS w p a (conK v F p.client p.wTopic p.wPayload p.user p.pass (be p.keep.toNat 2) (tailC v 1 p.props) (tailC v 16 p.wProps) p.hasWill p.hasUser p.hasPass) x W->W.cell? ⟨w.heap.size,11,none⟩=some (.string (bs p.user)):=fun x W h=>h.1.cell 11;have K12:∀x W,GhS w p a (conK v F p.client p.wTopic p.wPayload p.user p.pass (be p.keep.toNat 2) (tailC v 1 p.props) (tailC v 16 p.wProps) p.hasWill p.hasUser p.hasPass) x W->W.cell? ⟨w.heap.size,12,none⟩=some (.bool p.hasPass):=fun x W h=>h.1.cell 12;have K13:∀x W,GhS w p a (conK v F p.client p.wTopic p.wPayload p.user p.pass (be p.keep.toNat 2) (tailC v 1 p.props) (tailC v 16 p.wProps) p.hasWill p.hasUser p.hasPass) x W->W.cell? ⟨w.heap.size,13,none⟩=some (.string (bs p.pass)):=fun x W h=>h.1.cell 13;have K14:∀x W,GhS w p a (conK v F p.client p.wTopic p.wPayload p.user p.pass (be p.keep.toNat 2) (tailC v 1 p.props) (tailC v 16 p.wProps) p.hasWill p.hasUser p.hasPass) x W->W.cell? ⟨w.heap.size,14,none⟩=some (.bool p.hasWill):=fun x W h=>h.1.cell 14;have K15:∀x W,GhS w p a (conK v F p.client p.wTopic p.wPayload p.user p.pass (be p.keep.toNat 2) (tailC v 1 p.props) (tailC v 16 p.wProps) p.hasWill p.hasUser p.hasPass) x W->W.cell? ⟨w.heap.size,15,none⟩=some (.string (bs p.wTopic)):=fun x W h=>h.1.cell 15;have K16:∀x W,GhS w p a (conK v F p.client p.wTopic p.wPayload p.user p.pass (be p.keep.toNat 2) (tailC v 1 p.props) (tailC v 16 p.wProps) p.hasWill p.hasUser p.hasPass) x W->W.cell? ⟨w.heap.size,16,none⟩=some (.string (bs p.wPayload)):=fun x W h=>h.1.cell 16;have K19:∀x W,GhS w p a (conK v F p.client p.wTopic p.wPayload p.user p.pass (be p.keep.toNat 2) (tailC v 1 p.props) (tailC v 16 p.wProps) p.hasWill p.hasUser p.hasPass) x W->W.cell? ⟨w.heap.size,19,none⟩=some (.slice a.w p.wProps.length a.wc):=fun x W h=>h.1.cell 19;have K24:∀x W,GhS w p a (conK v F p.client p.wTopic p.wPayload p.user p.pass (be p.keep.toNat 2) (tailC v 1 p.props) (tailC v 16 p.wProps) p.hasWill p.hasUser p.hasPass) x W->W.cell? ⟨w.heap.size,24,none⟩=some (.slice a.ps p.props.length a.pc):=fun x W h=>h.1.cell 24;have S1X:∀x W,GhS w p a (conK v F p.client p.wTopic p.wPayload p.user p.pass (be p.keep.toNat 2) (tailC v 1 p.props) (tailC v 16 p.wProps) p.hasWill p.hasUser p.hasPass) x W->W.heap[w.heap.size]?=some (.cells (pkC p a) 38 (0,0)):=fun x W h=>h.1.box;have BE:∀W,BxS w p a W->GhS w p a (conK v F p.client p.wTopic p.wPayload p.user p.pass (be p.keep.toNat 2) (tailC v 1 p.props) (tailC v 16 p.wProps) p.hasWill p.hasUser p.hasPass) (fun _=>none) W.drew:=fun W h=>GhS.begin h;have LO:∀x W,GhS w p a (conK v F p.client p.wTopic p.wPayload p.user p.pass (be p.keep.toNat 2) (tailC v 1 p.props) (tailC v 16 p.wProps) p.hasWill p.hasUser p.hasPass) x W->Below w.heap.size w W:=fun x W h=>h.1.low;generalize GhS w p a (conK v F p.client p.wTopic p.wPayload p.user p.pass (be p.keep.toNat 2) (tailC v 1 p.props) (tailC v 16 p.wProps) p.hasWill p.hasUser p.hasPass)=S at *;have hS1X:=hid S1X;have hBE:=hid BE;have hLO:=hid LO;have hK0:=hid K0;have hK8:=hid K8;have hK9:=hid K9;have hK10:=hid K10;have hK11:=hid K11;have hK12:=hid K12;have hK13:=hid K13;have hK14:=hid K14;have hK15:=hid K15;have hK16:=hid K16;have hK19:=hid K19;have hK24:=hid K24;have hM3:=hid M3;have hM17:=hid M17;have hM32:=hid M32;have hM34:=hid M34;have hM40:=hid M40;have hM42:=hid M42;have hM48:=hid M48;have hM50:=hid M50;have hM52:=hid M52;have hH33:=hid H33;have hH35:=hid H35;have hH39:=hid H39;have hH45:=hid H45;have hH49:=hid H49;have hH56:=hid H56;have hH64:=hid H64;have hH66:=hid H66;have hH72:=hid H72;have hH74:=hid H74;have hH80:=hid H80;have hH82:=hid H82;have hH84:=hid H84;have hkw:IntKind.u64.wrap p.keep=p.keep:=by rw[IntKind.wrap_u64];omega
 have HKW:=hid hkw;have HK:=hid hk;clear S1X BE LO K0 K8 K9 K10 K11 K12 K13 K14 K15 K16 K19 K24 M3 M17 M32 M34 M40 M42 M48 M50 M52 H33 H35 H39 H45 H49 H56 H64 H66 H72 H74 H80 H82 H84 hkw hraw;generalize rawC v p=R at *;generalize (if p.hasWill then tailC v 16 p.wProps++(enc2 p.wTopic++enc2 p.wPayload) else [])=z1 at *;generalize (if p.hasUser then enc2 p.user else [])=z2 at *;generalize (if p.hasPass then enc2 p.pass else [])=z3 at *;unfold pkV;clear hp sp ok ca hv f1 f2 f3 l1 l2 l3 l4 l5 l6 l7 hF;go_in;go_wp2_with (refine wpList_load_row rfl _ _ rfl w.heap.size rfl 38 _ (0,0) _ S0.out.box underlying38 rfl (by rw[C1.out];exact q5nr) ?_);refine(VA.out _ S0.out).mono ?_;rintro e W ⟨rfl,hb⟩;have S1:=hid (S0.out.call hb);clear hb;have k0:W.cell? ⟨w.heap.size,0,none⟩=some (.int .i64 p.kind):=S1.out.cell 0;rw[HK.out] at k0
 go_upto_region 6 with fail
 refine qnpt (S:=S) (B:=w.heap.size) (hBE.out _ S1.out) C1.out hS1X.out HKW.out hK0.out hK8.out hK9.out hK10.out hK11.out hK12.out hK13.out hK14.out hK15.out hK16.out hK19.out hK24.out hM3.out hM17.out hM32.out hM34.out hM40.out hM42.out hM48.out hM50.out hM52.out hH33.out hH35.out hH39.out hH45.out hH49.out hH56.out hH64.out hH66.out hH72.out hH74.out hH80.out hH82.out hH84.out ?_;intro x r3 r17 r32 r34 r40 r42 r48 r50 r52 W2 hS;have L2:=hid (hLO.out x W2 hS);clear hS;go_wp2
 go_ret2
 exact⟨rfl,L2.out⟩
theorem qz43(v:Int)(p:Pk)(a:Ad)(w:World)(hp:PkAt w p a)(sp:q21o p)(ok:PkOk p)(ca:PkCap p a) :
 Calls prog 89 #[.int .i64 v,pkV p a] w fun e w'=>e=.returned (.tuple #[.string (bs (qso1 v p).1),.int .i64 ((qso1 v p).2:Nat)])/\Below w.heap.size w w':=by
 unfold qso1;by_cases hv:validC v p=0
 ·rw[if_neg (by simpa using hv)];rcases(ok_c (qgoi hv).1).2.1 with hk|hk
  ·exact qfoi v p a w hp sp ok ca hv hk
  ·exact qqai v p a w hp sp ok ca hv hk
 ·rw[if_pos hv];have S0:=hid (BxS.made w p a);have VA:=fun W (h:BxS w p a W)=>qspo v p a W (hp.below h.low) sp ok ca;have C1:=hid (qwmp p a);generalize validC v p=R at *;have hr1:((R:Int)==0)=false:=by simp;omega
  have hr2:((R:Int) != 0)=true:=by simp;omega
  have VA:=hid VA;clear hv hp sp ok ca;unfold pkV at *;go_in;go_wp2_with (refine wpList_load_row rfl _ _ rfl w.heap.size rfl 38 _ (0,0) _ S0.out.box underlying38 rfl (by rw[C1.out];exact q5nr) ?_);refine(VA.out _ S0.out).mono ?_;rintro e W ⟨rfl,hb⟩;have LO:=hid (qxh2 S0.out.low hb);clear hb;go_wp2
  go_ret2
  exact⟨rfl,LO.out⟩
end Go.Proofs.YtefmhbioggcfaaaGreatDoor
