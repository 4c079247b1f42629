/- The contract of ack.Read. Condition: the bytes are no more than memory holds. -/
import Derived.Test.YtombgnfedafkjaaGreatDoorK38
import Derived.Test.YtombgnfedafkjaaGreatDoorK23
set_option maxRecDepth 100000
set_option maxHeartbeats 2000000
namespace Go.Proofs.YtombgnfedafkjaaGreatDoor
open Lib(hid)
open Proofs.Tryz
open Go.RowKit
theorem q22l{v kind:Int}(hk:-9223372036854775808<=kind/\kind<=9223372036854775807)(y:Cs):FitA (qts0 v kind y).1:=by
 unfold qts0;simp only;refine q0yw hk ?_;unfold midB qolc;split
 ·split
  ·exact⟨fun p hp=>(nomatch hp),Nat.zero_le _⟩
  ·split
   ·exact⟨fun p hp=>(nomatch hp),Nat.zero_le _⟩
   ·exact qdz1 _ _
 ·exact⟨fun p hp=>(nomatch hp),Nat.zero_le _⟩
theorem qpbq(v kind:Int)(y:Cs):∃i c l,(qts0 v kind y).1=pkB kind i c l:=⟨_,_,_,rfl⟩
structure KrS(w:World)(B:Nat)(P:Pk)(a:Ad)(W:World):Prop where
 low:Below w.heap.size w W
 rs:W.heap[w.heap.size]?=some (.cells pkZ 32 (0,0))
 hB:w.heap.size<B
 pk:W.heap[B]?=some (.cells (pkC P a) 32 (0,0))
 at_:PkAt W P a
 pf:∀g i,a.ps=some ⟨g,i,none⟩->w.heap.size<g
theorem KrS.call{w W W':World}{B:Nat}{P:Pk}{a:Ad}(h:KrS w B P a W)(hb:Below W.heap.size W W'):KrS w B P a W':=
 ⟨qxh2 h.low hb,(hb.block _ (lt_of_block h.rs)).trans h.rs,h.hB,(hb.block _ (lt_of_block h.pk)).trans h.pk,h.at_.below hb,h.pf⟩
theorem qfe6(v kind:Int)(s:ByteArray)(w:World)(hk0:-9223372036854775808<=kind)(hk1:kind<=9223372036854775807)(hm:s.size<=140737488351232) :
 Calls prog 71 #[.int .i64 v,.int .i64 kind,.string s] w (q2da w (q9uf v kind s.data.toList)):=by
 have KN:=qnzz v kind;have HZ:=hid qbwp;have hzv:=qrai;have hne:¬pkZ=#[]:=by intro h;have:=qbwp;rw[h] at this;cases this
 have PZ:Hid (pkZ.all (·.oneCell')=true):=hid (qmz0 Pk.zero adZ);have R0:=hid (heap_alloc_new w (.cells pkZ 32));have L0:=hid (qybm (w:=w) (.cells pkZ 32));have RZ:=hid (fun(e:Nat) W (hb:Below w.heap.size w W)=>(show q2da w (Pk.zero,e) (.returned (.tuple #[.agg pkZ,.int .i64 (e:Nat)])) (W.setRow w.heap.size pkZ) from⟨adZ,rfl,qa3p _,Nat.zero_le _,qkys,q8xz hb (Nat.le_refl _) _,fun _=>rfl,q16x w⟩));rw[q96o];by_cases hk:(versC v&&qvya kind)=false
 ·rw[if_pos hk];rw[hk] at KN;have KN:=hid KN;clear hk;go_in;go_wp2_with fail;refine(KN.out _).mono ?_;rintro e W ⟨rfl,rfl⟩;go_wp2_with (first
   |(refine wpList_buildTo rfl 32 _ rfl (some _) rfl pkZ (by kernel_rfl) ?_)
   |(refine wpList_store_row rfl _ _ _ rfl w.heap.size pkZ rfl rfl 32 _ R0.out (by rw[HZ.out];exact q5nr) rfl PZ.out ?_))
  refine q8iy (cs:=pkZ) rfl rfl rfl rfl underlying32 rfl (by rw[HZ.out];exact q5nr) (setRow_heap _ _ _ _ _ _ R0.out) ?_;exact RZ.out 2 _ L0.out
 ·rw[if_neg hk];rw[Bool.not_eq_false] at hk;rw[hk] at KN;have KN:=hid KN;have RD:=fun cb W (h:CsAt W cb s ⟨s.data.toList,0⟩)=>q8pc v hk0 hk1 hm h;have FI:=q22l (v:=v) ⟨hk0,hk1⟩ ⟨s.data.toList,0⟩;obtain⟨pi,pc,pl,hpl⟩:=qpbq v kind ⟨s.data.toList,0⟩;obtain⟨z,hz⟩:∃z,qts0 v kind ⟨s.data.toList,0⟩=z:=⟨_,rfl⟩
  rw[hz] at RD FI hpl ⊢;obtain⟨P,Y⟩:=z;simp only at RD FI hpl ⊢;have PT:∀W a,PL W a.ps P.props->PkAt W P a:=fun W a h=>by subst hpl;exact⟨fun e=>absurd rfl e,fun e=>absurd rfl e,fun e=>absurd rfl e,h⟩
  have NL:=hid (show P.wProps=[]/\P.codes=[]/\P.filters=[] by subst hpl;exact⟨rfl,rfl,rfl⟩);obtain⟨f,hf⟩:∃f,Y.e=f:=⟨_,rfl⟩
  rw[hf] at RD ⊢;have VA:=fun a W (h:PkAt W P a) (hc:P.props.length<=a.pc)=>qat7 v P a W h FI.2 FI.1 hc;generalize qryp v P=q at *;obtain⟨R,hR⟩:∃R,(if (if f=0 then q else f)≠0 then(Pk.zero,(if f=0 then q else f)) else(P,0))=R:=⟨_,rfl⟩
  rw[hR];have HR:=hid hR;have HFI:=hid FI;replace RD:=hid RD;replace PT:=hid PT;replace VA:=hid VA;clear hk hz hpl hf hR FI hm;have ZW:=hid (show(w.alloc (.cells pkZ 32)).heap.size=w.heap.size+1 by simp);go_in;go_wp2_with fail;refine(KN.out _).mono ?_;rintro e W ⟨rfl,rfl⟩;generalize w.alloc (.cells pkZ 32)=W0 at *;go_wp2_with fail;refine(q2gu s _).mono ?_;rintro e W1 ⟨rfl,hc,hb1,hz1⟩;have C1:=(show CsAt W1 W0.heap.size s ⟨s.data.toList,0⟩ from⟨0,Nat.zero_le _,hc,by simp⟩)
  replace C1:=hid C1;have L1:=hid (qxh2 L0.out hb1);have R1:=hid ((hb1.block _ (lt_of_block R0.out)).trans R0.out);have Z1:=hid (show W1.heap.size=w.heap.size+2 by rw[hz1,ZW.out]);clear hc hb1 hz1;go_wp2_with fail;refine(RD.out _ _ C1.out).mono ?_;rintro e W2 ⟨a,rfl,p1,p2,p3,hg⟩;have L2:=L1.out.grown hg L1.out.size (fun k e=>by have:=Option.some.inj e;have:=ZW.out;omega);have R2:=(hg.block _ (lt_of_block R1.out) (fun e=>by have:=Option.some.inj e;have:=ZW.out;omega)).trans R1.out;have hbx:Below W2.heap.size W2 ((W2.alloc (.cells pkZ 32)).setRow W2.heap.size (pkC P a)):=q8xz (qybm (w:=W2) (.cells pkZ 32)) (Nat.le_refl _) (pkC P a);have S3:KrS w W2.heap.size P a ((W2.alloc (.cells pkZ 32)).setRow W2.heap.size (pkC P a)):=
   ⟨qxh2 L2 hbx,(hbx.block _ (lt_of_block R2)).trans R2,by have:=hg.size;have:=Z1.out;omega,setRow_heap _ _ _ _ _ _ (heap_alloc_new W2 _),PT.out _ a (p1.below hbx),fun g i e=>by have:=p3 g i e;have:=Z1.out;omega⟩
  have S3:=hid S3;have CP:=hid p2;have hD1:=qwmp P a;have hD2:=qmz0 P a;obtain⟨D,hD⟩:∃D,pkC P a=D:=⟨_,rfl⟩
  rw[hD] at hD1 hD2 S3 ⊢;have HD:=hid hD;have HD1:=hid hD1;have HD2:=hid hD2;have PKD:=hid (fun V (h:KrS w W2.heap.size P a V)=>(by rw[<-hD];exact h.pk:V.heap[W2.heap.size]?=some (.cells D 32 (0,0))));have VAa:=VA.out a;have VAa:=fun V (h:KrS w W2.heap.size P a V)=>(VAa V h.at_ CP.out).mono fun e W' hh=>(⟨hh.1,h.call hh.2⟩:_/\KrS w W2.heap.size P a W')
  rw[hD] at VAa;have VAa:=hid VAa;have FINT:=hid (fun V (h:KrS w W2.heap.size P a V)=>(show q2da w (P,0) (.returned (.tuple #[.agg D,.int .i64 ((0:Nat):Int)])) (V.setRow w.heap.size D) from
   ⟨a,by rw[hD],PT.out _ a (h.at_.ps.kept (by simp[World.setRow]) (fun g i e _=>setRow_other V w.heap.size g _ (by have:=h.pf g i e;omega))),CP.out,HFI.out,q8xz h.low (Nat.le_refl _) _,fun h=>absurd rfl h,qq13 NL.out.1 NL.out.2.1 NL.out.2.2 fun g i e=>by have:=h.pf g i e;omega⟩))
  clear p1 p2 p3 hg L2 R2 hbx hD1 hD2 hD VA PT RD;by_cases hf0:f=0
  ·subst hf0;by_cases hq:q=0
   ·subst hq;have hr:R=(P,0):=by rw[<-HR.out];simp
    subst hr;go_wp2_with (first
     |(refine wpList_store_row rfl _ _ _ rfl W2.heap.size D rfl rfl 32 _ (heap_alloc_new W2 _) (by rw[HD1.out];exact q5nr) (by rw[HZ.out,HD1.out]) HD2.out ?_)
     |(refine wpList_load_row rfl _ _ rfl W2.heap.size rfl 32 D (0,0) _ (PKD.out _ S3.out) underlying32 rfl (by rw[HD1.out];exact q5nr) ?_))
    refine(VAa.out _ S3.out).mono ?_;rintro e W4 ⟨rfl,hS⟩;have S4:=hid hS;have RS4:=hid hS.rs;clear hS;go_wp2_with (first
     |(refine wpList_store_row rfl _ _ _ rfl w.heap.size D rfl rfl 32 _ RS4.out (by rw[HD1.out];exact q5nr) (by rw[HZ.out,HD1.out]) HD2.out ?_)
     |(refine wpList_load_row rfl _ _ rfl W2.heap.size rfl 32 D (0,0) _ (PKD.out _ S4.out) underlying32 rfl (by rw[HD1.out];exact q5nr) ?_))
    exact q8iy (cs:=D) rfl rfl rfl rfl underlying32 rfl (by rw[HD1.out];exact q5nr) (setRow_heap _ _ _ _ _ _ RS4.out) (FINT.out _ S4.out)
   ·have hr:R=(Pk.zero,q):=by rw[<-HR.out];simp[hq]
    subst hr;have q1:((q:Int)==0)=false:=by simp;omega
    have q2:((q:Int) != 0)=true:=by simp;omega
    clear hq;go_wp2_with (first
     |(refine wpList_store_row rfl _ _ _ rfl W2.heap.size D rfl rfl 32 _ (heap_alloc_new W2 _) (by rw[HD1.out];exact q5nr) (by rw[HZ.out,HD1.out]) HD2.out ?_)
     |(refine wpList_load_row rfl _ _ rfl W2.heap.size rfl 32 D (0,0) _ (PKD.out _ S3.out) underlying32 rfl (by rw[HD1.out];exact q5nr) ?_))
    refine(VAa.out _ S3.out).mono ?_;rintro e W4 ⟨rfl,hS⟩;have RS4:=hid hS.rs;have RT:=hid (RZ.out q W4 hS.low);clear hS;go_wp2_with (first
     |(refine wpList_buildTo rfl 32 _ rfl (some _) rfl pkZ (by kernel_rfl) ?_)
     |(refine wpList_store_row rfl _ _ _ rfl w.heap.size pkZ rfl rfl 32 _ RS4.out (by rw[HZ.out];exact q5nr) rfl PZ.out ?_))
    exact q8iy (cs:=pkZ) rfl rfl rfl rfl underlying32 rfl (by rw[HZ.out];exact q5nr) (setRow_heap _ _ _ _ _ _ RS4.out) RT.out
  ·have hr:R=(Pk.zero,f):=by rw[<-HR.out];simp[hf0]
   subst hr;have q1:((f:Int)==0)=false:=by simp;omega
   have q2:((f:Int) != 0)=true:=by simp;omega
   have RS4:=hid S3.out.rs;have RT:=hid (RZ.out f _ S3.out.low);clear hf0;go_wp2_with (first
    |(refine wpList_store_row rfl _ _ _ rfl W2.heap.size D rfl rfl 32 _ (heap_alloc_new W2 _) (by rw[HD1.out];exact q5nr) (by rw[HZ.out,HD1.out]) HD2.out ?_)
    |(refine wpList_buildTo rfl 32 _ rfl (some _) rfl pkZ (by kernel_rfl) ?_)
    |(refine wpList_store_row rfl _ _ _ rfl w.heap.size pkZ rfl rfl 32 _ RS4.out (by rw[HZ.out];exact q5nr) rfl PZ.out ?_))
   exact q8iy (cs:=pkZ) rfl rfl rfl rfl underlying32 rfl (by rw[HZ.out];exact q5nr) (setRow_heap _ _ _ _ _ _ RS4.out) RT.out
def rdrV(cb:Nat)(v:Int):Value := .agg #[.pointer (some ⟨cb,0,none⟩),.int .i64 v]
section
variable{w W W':World}{cb:Nat}{s:ByteArray}{x:Cs}{v:Int}
theorem qkvc(w:World)(cb:Nat)(v:Int):(w.alloc (.cells #[.pointer (some ⟨cb,0,none⟩),.int .i64 v] 123)).heap[w.heap.size]?=some (.cells #[.pointer (some ⟨cb,0,none⟩),.int .i64 v] 123 (0,0)):=heap_alloc_new w _
theorem qr75(b:Bool)(f:Nat)(h:CsAt w cb s x) :
 Calls prog 93 #[rdrV cb v,.bool b,.int .i64 (f:Nat)] w fun e w'=>e=.returned (.tuple #[])/\CsAt w' cb s (if b then x else x.fail f)/\w.grownBy w' (some cb):=by
 have G0:=hid (World.grownBy_alloc w (.cells #[.pointer (some ⟨cb,0,none⟩),.int .i64 v] 123) (some cb));have h0:=h.alloc (.cells #[.pointer (some ⟨cb,0,none⟩),.int .i64 v] 123);have FL:=hid (qazj f h0);have H0:=hid h0;unfold rdrV;clear h h0;cases b with
 |true=>
  go_in;go_wp2_with fail
  go_end0
  exact⟨rfl,H0.out,G0.out⟩
 |false=>
  go_in;go_wp2_with fail;refine(FL.out).mono ?_;rintro e w2 ⟨rfl,hc,hg⟩;have HC:=hid hc;have HG:=hid (qo6d G0.out hg);clear hc hg;go_wp2_with fail
  go_end0
  exact⟨rfl,HC.out,HG.out⟩
theorem q0ph(x:Cs)(n:Nat)(hn:n<=2):(x.num n).1<65536:=by
 unfold Cs.num
 have:=qn9h (x.take n).1
 have hl:(x.take n).1.length<=2:=by
  unfold Cs.take;split
  ·simp
  ·split
   ·simp
   ·simp;omega
 have:256^(x.take n).1.length<=256^2:=Nat.pow_le_pow_right (by decide) hl
 omega
theorem qevs(hm:s.size<=9223372036854775807)(h:CsAt w cb s x) :
 Calls prog 170 #[rdrV cb v] w fun e w'=>e=.returned (.int .i64 ((x.num 1).1:Nat))/\CsAt w' cb s (x.num 1).2/\w.grownBy w' (some cb):=by
 have G0:=hid (World.grownBy_alloc w (.cells #[.pointer (some ⟨cb,0,none⟩),.int .i64 v] 123) (some cb));have h0:=h.alloc (.cells #[.pointer (some ⟨cb,0,none⟩),.int .i64 v] 123);have NM:=q8yf 1 (by decide) hm h0;have hlt:=q0ph x 1 (by decide);generalize x.num 1=z at *;obtain⟨z1,z2⟩:=z;have NM:=hid NM;have hz0:(0:Int)<=z1:=by omega
 have hz:(z1:Int)<65536:=by omega
 unfold rdrV;clear h h0 hlt;go_in;go_wp2_with fail;refine(NM.out).mono ?_;rintro e w2 ⟨rfl,hc,hg⟩;have HC:=hid hc;have HG:=hid (qo6d G0.out hg);clear hc hg;go_wp2;go_ret;exact⟨rfl,HC.out,HG.out⟩
theorem q9lb(hm:s.size<=9223372036854775807)(h:CsAt w cb s x) :
 Calls prog 214 #[rdrV cb v] w fun e w'=>e=.returned (.string (bs x.ahead))/\Below w.heap.size w w':=by
 have B0:=hid (qybm (w:=w) (.cells #[.pointer (some ⟨cb,0,none⟩),.int .i64 v] 123));have h0:=h.alloc (.cells #[.pointer (some ⟨cb,0,none⟩),.int .i64 v] 123);have LF:=hid (fun n=>qjtm hm (h0.draws n));have PK:=hid (fun n=>qitj hm (h0.draws n));have DR:∀a b:Nat,((w.alloc (.cells #[.pointer (some ⟨cb,0,none⟩),.int .i64 v] 123)).drewN a).drewN b=(w.alloc (.cells #[.pointer (some ⟨cb,0,none⟩),.int .i64 v] 123)).drewN (a+b):=fun a b=>by simp
 have DR:=hid DR;unfold rdrV;clear h h0;go_in;go_wp2_with fail;go_quiet (first
  |(go_at_call 77;exact(LF.out _).mono fun _ _ h=>⟨h.1,qrso h.2⟩)
  |(go_at_call 232;exact(PK.out _).mono fun _ _ h=>⟨h.1,qrso h.2⟩))
 go_wp2;go_ret;exact⟨rfl,qnpu B0.out _⟩
theorem qa2g(k f:Nat)(hk:k<=x.r.length)(hm:s.size<=9223372036854775807)(h:CsAt w cb s x) :
 Calls prog 215 #[rdrV cb v,.int .i64 (k:Nat),.int .i64 (f:Nat)] w fun e w'=>e=.returned (.tuple #[])/\CsAt w' cb s (if x.e=0 then⟨x.r.drop k,f⟩ else x)/\w.grownBy w' (some cb):=by
 have G0:=hid (World.grownBy_alloc w (.cells #[.pointer (some ⟨cb,0,none⟩),.int .i64 v] 123) (some cb));have h0:=h.alloc (.cells #[.pointer (some ⟨cb,0,none⟩),.int .i64 v] 123);have TK:=hid (qgtr k hm h0);have e1:((x.take k).2.fail f)=if x.e=0 then⟨x.r.drop k,f⟩ else x:=by
  unfold Cs.take Cs.fail;by_cases he:x.e=0
  ·simp[he,show ¬x.r.length<k by omega]
  ·simp[he]
 rw[<-e1];have BX:=hid (qkvc w cb v);have hne:w.heap.size≠cb:=Nat.ne_of_gt h.lt;unfold rdrV;clear h h0 e1 hk;go_in;go_wp2_with fail;refine(TK.out).mono ?_;rintro e w2 ⟨rfl,hc,hg⟩;have hb2:=(hg.block w.heap.size (by simp) (fun e=>hne (Option.some.inj e))).trans BX.out;have c0:w2.cell? ⟨w.heap.size,0,none⟩=some (.pointer (some ⟨cb,0,none⟩)):=cell_of_row _ _ 0 _ _ _ hb2;have FL:=hid (qazj f hc);have HG:=hid (qo6d G0.out hg);clear hc hg hb2;go_wp2_with fail;refine(FL.out).mono ?_;rintro e w3 ⟨rfl,hc,hg⟩;have HC:=hid hc;have HG2:=hid (qo6d HG.out hg);clear hc hg c0;go_wp2_with fail
 go_end0
 exact⟨rfl,HC.out,HG2.out⟩
theorem qe36:rdB []=([],0,3):=by decide
theorem qg2y:rdT []=([],0,3):=by decide
theorem qgsz(hm:s.size<=9223372036854775807)(h:CsAt w cb s x) :
 Calls prog 217 #[rdrV cb v,.func (.func 145) #[] #[]] w fun e w'=>e=.returned (.string (bs x.text.1))/\CsAt w' cb s x.text.2/\w.grownBy w' (some cb):=by
 have G0:=hid (World.grownBy_alloc w (.cells #[.pointer (some ⟨cb,0,none⟩),.int .i64 v] 123) (some cb));have h0:=h.alloc (.cells #[.pointer (some ⟨cb,0,none⟩),.int .i64 v] 123);have AH:=hid (q9lb (v:=v) hm h0);have hle:x.ahead.length<=x.r.length:=by unfold Cs.ahead;split;exact Nat.le_refl _;exact Nat.zero_le _
 have RD:=fun W=>q2z4 (bs x.ahead) W (by rw[q5zk];have:=h.len;omega);rw[qkd1] at RD;have hk:=(qslt x.ahead).1;have hk2:(rdT x.ahead).2.1<=x.r.length:=Nat.le_trans hk hle;have e1:x.text=((rdT x.ahead).1,if x.e=0 then⟨x.r.drop (rdT x.ahead).2.1,(rdT x.ahead).2.2⟩ else x):=by
  unfold Cs.text Cs.ahead;by_cases he:x.e=0
  ·simp[he]
  ·simp[he,qg2y]
 rw[e1];generalize rdT x.ahead=z at *;obtain⟨t,k,f⟩:=z;have RD:=hid RD;have PS:=fun W (h:CsAt W cb s x)=>qa2g (v:=v) k f hk2 hm h;generalize (if x.e=0 then(⟨x.r.drop k,f⟩:Cs) else x)=y at *;have PS:=hid PS;have H0:=hid h0;have BX:=hid (qkvc w cb v);have hne:w.heap.size≠cb:=Nat.ne_of_gt h.lt;unfold rdrV at *;unfold ok3 at RD;clear h h0 hle hk hk2 e1;go_in;go_wp2_with fail;refine(AH.out).mono ?_;rintro e w2 ⟨rfl,hb⟩;have H2:=hid (H0.out.below hb);have G2:=hid (qo6d G0.out (q9cp hb (some cb)));have X2:=hid ((hb.block _ (lt_of_block BX.out)).trans BX.out);clear hb;go_wp2_with fail;refine(RD.out _).mono ?_;rintro e w3 ⟨rfl,hb⟩;have H3:=hid (H2.out.below hb);have G3:=hid (qo6d G2.out (q9cp hb (some cb)));have X3:=(hb.block _ (lt_of_block X2.out)).trans X2.out;have c0:w3.cell? ⟨w.heap.size,0,none⟩=some (.pointer (some ⟨cb,0,none⟩)):=cell_of_row _ _ 0 _ _ _ X3;have c1:w3.cell? ⟨w.heap.size,1,none⟩=some (.int .i64 v):=cell_of_row _ _ 1 _ _ _ X3;clear hb X3;go_wp2_with fail;refine(PS.out _ H3.out).mono ?_;rintro e w4 ⟨rfl,hc,hg⟩;have H4:=hid hc;have G4:=hid (qo6d G3.out hg);clear hc hg c0 c1;go_wp2;go_ret;exact⟨rfl,H4.out,G4.out⟩
theorem q444(hm:s.size<=9223372036854775807)(h:CsAt w cb s x) :
 Calls prog 217 #[rdrV cb v,.func (.func 185) #[] #[]] w fun e w'=>e=.returned (.string (bs x.bin.1))/\CsAt w' cb s x.bin.2/\w.grownBy w' (some cb):=by
 have G0:=hid (World.grownBy_alloc w (.cells #[.pointer (some ⟨cb,0,none⟩),.int .i64 v] 123) (some cb));have h0:=h.alloc (.cells #[.pointer (some ⟨cb,0,none⟩),.int .i64 v] 123);have AH:=hid (q9lb (v:=v) hm h0);have hle:x.ahead.length<=x.r.length:=by unfold Cs.ahead;split;exact Nat.le_refl _;exact Nat.zero_le _
 have RD:=fun W=>qgvs (bs x.ahead) W (by rw[q5zk];have:=h.len;omega);rw[qkd1] at RD;have hk:=(q3gm x.ahead).1;have hk2:(rdB x.ahead).2.1<=x.r.length:=Nat.le_trans hk hle;have e1:x.bin=((rdB x.ahead).1,if x.e=0 then⟨x.r.drop (rdB x.ahead).2.1,(rdB x.ahead).2.2⟩ else x):=by
  unfold Cs.bin Cs.ahead;by_cases he:x.e=0
  ·simp[he]
  ·simp[he,qe36]
 rw[e1];generalize rdB x.ahead=z at *;obtain⟨t,k,f⟩:=z;have RD:=hid RD;have PS:=fun W (h:CsAt W cb s x)=>qa2g (v:=v) k f hk2 hm h;generalize (if x.e=0 then(⟨x.r.drop k,f⟩:Cs) else x)=y at *;have PS:=hid PS;have H0:=hid h0;have BX:=hid (qkvc w cb v);have hne:w.heap.size≠cb:=Nat.ne_of_gt h.lt;unfold rdrV at *;unfold ok3 at RD;clear h h0 hle hk hk2 e1;go_in;go_wp2_with fail;refine(AH.out).mono ?_;rintro e w2 ⟨rfl,hb⟩;have H2:=hid (H0.out.below hb);have G2:=hid (qo6d G0.out (q9cp hb (some cb)));have X2:=hid ((hb.block _ (lt_of_block BX.out)).trans BX.out);clear hb;go_wp2_with fail;refine(RD.out _).mono ?_;rintro e w3 ⟨rfl,hb⟩;have H3:=hid (H2.out.below hb);have G3:=hid (qo6d G2.out (q9cp hb (some cb)));have X3:=(hb.block _ (lt_of_block X2.out)).trans X2.out;have c0:w3.cell? ⟨w.heap.size,0,none⟩=some (.pointer (some ⟨cb,0,none⟩)):=cell_of_row _ _ 0 _ _ _ X3;have c1:w3.cell? ⟨w.heap.size,1,none⟩=some (.int .i64 v):=cell_of_row _ _ 1 _ _ _ X3;clear hb X3;go_wp2_with fail;refine(PS.out _ H3.out).mono ?_;rintro e w4 ⟨rfl,hc,hg⟩;have H4:=hid hc;have G4:=hid (qo6d G3.out hg);clear hc hg c0 c1;go_wp2;go_ret;exact⟨rfl,H4.out,G4.out⟩
theorem qt5a(hm:s.size<=9223372036854775807)(h:CsAt w cb s x) :
 Calls prog 173 #[rdrV cb v] w fun e w'=>e=.returned (.string (bs x.text.1))/\CsAt w' cb s x.text.2/\w.grownBy w' (some cb):=by
 have G0:=hid (World.grownBy_alloc w (.cells #[.pointer (some ⟨cb,0,none⟩),.int .i64 v] 123) (some cb));have h0:=h.alloc (.cells #[.pointer (some ⟨cb,0,none⟩),.int .i64 v] 123);have PI:=hid (qgsz (v:=v) hm h0);unfold rdrV at *;clear h h0;go_in;go_wp2_with fail;refine(PI.out).mono ?_;rintro e w2 ⟨rfl,hc,hg⟩;have H2:=hid hc;have G2:=hid (qo6d G0.out hg);clear hc hg;go_wp2;go_ret;exact⟨rfl,H2.out,G2.out⟩
theorem q932(hm:s.size<=9223372036854775807)(h:CsAt w cb s x) :
 Calls prog 174 #[rdrV cb v] w fun e w'=>e=.returned (.string (bs x.bin.1))/\CsAt w' cb s x.bin.2/\w.grownBy w' (some cb):=by
 have G0:=hid (World.grownBy_alloc w (.cells #[.pointer (some ⟨cb,0,none⟩),.int .i64 v] 123) (some cb));have h0:=h.alloc (.cells #[.pointer (some ⟨cb,0,none⟩),.int .i64 v] 123);have PI:=hid (q444 (v:=v) hm h0);unfold rdrV at *;clear h h0;go_in;go_wp2_with fail;refine(PI.out).mono ?_;rintro e w2 ⟨rfl,hc,hg⟩;have H2:=hid hc;have G2:=hid (qo6d G0.out hg);clear hc hg;go_wp2;go_ret;exact⟨rfl,H2.out,G2.out⟩
end
section
variable{w W W':World}{cb:Nat}{s:ByteArray}{x:Cs}{v:Int}
theorem q5sz(kind:Int)(hk0:-9223372036854775808<=kind)(hk1:kind<=9223372036854775807)(hm:s.size<=9223372036854775807)(h:CsAt w cb s x) :
 Calls prog 171 #[rdrV cb v,.int .i64 kind] w fun e w'=>(∃A c,e=.returned (.slice A (x.props v kind).1.length c)/\(x.props v kind).1.length<=c/\PL w' A (x.props v kind).1/\∀g i,A=some ⟨g,i,none⟩->w.heap.size<g)/\(∀p∈(x.props v kind).1,PrOk p)/\(x.props v kind).1.length<=1000/\CsAt w' cb s (x.props v kind).2/\w.grownBy w' (some cb):=by
 have G0:=hid (World.grownBy_alloc w (.cells #[.pointer (some ⟨cb,0,none⟩),.int .i64 v] 123) (some cb));have h0:=h.alloc (.cells #[.pointer (some ⟨cb,0,none⟩),.int .i64 v] 123);have H0:=hid h0;by_cases h5:v=5
 ·subst h5;have AH:=hid (q9lb (v:=5) hm h0);have hle:x.ahead.length<=x.r.length:=by unfold Cs.ahead;split;exact Nat.le_refl _;exact Nat.zero_le _
  obtain⟨L,k,F,hq⟩:∃L k F,qflw kind x.ahead=(L,k,F):=⟨_,_,_,rfl⟩
  have RD:=fun W=>q188 kind (bs x.ahead) L k F hk0 hk1 (by rw[q5zk];have:=h.len;omega) hq W;have hk2:k<=x.r.length:=by
   by_cases hF:F=0
   ·subst hF
    have:=(qugf hq).2.1
    omega
   ·have:=qjfk (kind:=kind) (s:=x.ahead) (by rw[hq];exact hF)
    rw[hq] at this
    have:k=0:=congrArg (fun z=>z.2.1) this
    omega
  have e1:x.props 5 kind=(L,if x.e=0 then⟨x.r.drop k,F⟩ else x):=by
   unfold Cs.props;by_cases he:x.e=0
   ·unfold Cs.ahead at hq;rw[if_pos he] at hq;simp[he,hq]
   ·unfold Cs.ahead at hq;rw[if_neg he,qjdx] at hq;simp[he,<-(Prod.mk.inj hq).1]
  rw[e1];have RD:=hid RD;have PS:=fun W (h:CsAt W cb s x)=>qa2g (v:=5) k F hk2 hm h;generalize (if x.e=0 then(⟨x.r.drop k,F⟩:Cs) else x)=y at *;have PS:=hid PS;have BX:=hid (qkvc w cb 5);have CB:=hid h.lt;unfold rdrV at *;clear h h0 hle hk2 e1 hq;go_in;go_wp2_with fail;refine(AH.out).mono ?_;rintro e w2 ⟨rfl,hb⟩;have Z2:=hid (show w.heap.size<w2.heap.size from Nat.lt_of_lt_of_le (lt_of_block BX.out) hb.size);have H2:=hid (H0.out.below hb);have G2:=hid (qo6d G0.out (q9cp hb (some cb)));have X2:=hid ((hb.block _ (lt_of_block BX.out)).trans BX.out);clear hb;go_wp2_with fail;refine(RD.out _).mono ?_;rintro e w3 ⟨hb,A,c,rfl,hc,hP,hO,hL,hA⟩;have H3:=hid (H2.out.below hb);have G3:=hid (qo6d G2.out (q9cp hb (some cb)));have P3:=hid hP;have Q3:=hid (And.intro hc (And.intro hO hL));have A3:=hid (fun g i (e:A=some ⟨g,i,none⟩)=>Nat.lt_of_lt_of_le Z2.out (hA g i e));have X3:=(hb.block _ (lt_of_block X2.out)).trans X2.out;have c0:w3.cell? ⟨w.heap.size,0,none⟩=some (.pointer (some ⟨cb,0,none⟩)):=cell_of_row _ _ 0 _ _ _ X3;have c1:w3.cell? ⟨w.heap.size,1,none⟩=some (.int .i64 5):=cell_of_row _ _ 1 _ _ _ X3;clear hb X3 hc hP hO hL hA;go_wp2_with fail;refine(PS.out _ H3.out).mono ?_;rintro e w4 ⟨rfl,hc,hg⟩;have H4:=hid hc;have G4:=hid (qo6d G3.out hg);have P4:=hid (P3.out.grown hg (fun g i e=>by have:=A3.out g i e;have:=CB.out;omega));clear hc hg c0 c1;go_wp2;go_ret;exact⟨⟨A,c,rfl,Q3.out.1,P4.out,A3.out⟩,Q3.out.2.1,Q3.out.2.2,H4.out,G4.out⟩
 ·have e1:x.props v kind=([],x):=by unfold Cs.props;rw[if_pos (.inr h5)]
  rw[e1];have h5':(v==5)=false:=beq_eq_false_iff_ne.2 h5;have h5n:(v != 5)=true:=by rw[show(v != 5)=!(v==5) from rfl,h5'];rfl
  unfold rdrV;clear h5 h5' h h0 e1;go_in;go_wp2;go_ret;exact⟨⟨none,0,rfl,Nat.zero_le _,fun e=>absurd rfl e,fun g i e=>by cases e⟩,fun p hp=>(nomatch hp),Nat.zero_le _,H0.out,G0.out⟩
def qvmk(c u a h r:Bool)(q:Int):Pk:={Pk.zero with kind:=1,clean:=c,hasUser:=u,hasPass:=a,hasWill:=h,wQos:=q,wRetain:=r}
def q8ku(f:Nat):Pk:=qvmk (f / 2%2==1) (f / 128%2==1) (f / 64%2==1) (f / 4%2==1) (f / 32%2==1) (f / 8%4:Nat)
theorem qmn0:∀f:Nat,f<256->(bits .and .i64 (f:Int) 2 != 0)=(f / 2%2==1)/\(bits .and .i64 (f:Int) 128 != 0)=(f / 128%2==1)/\(bits .and .i64 (f:Int) 64 != 0)=(f / 64%2==1)/\(bits .and .i64 (f:Int) 4 != 0)=(f / 4%2==1)/\(bits .and .i64 (f:Int) 32 != 0)=(f / 32%2==1)/\
 bits .and .i64 ((f:Int) / 8) 3=((f / 8%4:Nat):Int)/\(bits .and .i64 (f:Int) 1==0)=(f%2==0):=by decide+kernel
theorem qmea(f:Nat)(hf:f<256)(w:World) :
 Calls prog 216 #[.int .i64 (f:Nat)] w fun e w'=>e=.returned (.agg (pkC (q8ku f) adZ))/\Below w.heap.size w w':=by
 obtain⟨b2,b128,b64,b4,b32,bq,_⟩:=qmn0 f hf;have f0:(0:Int)<=f:=by omega
 have f1:(f:Int)<256:=by omega
 unfold q8ku;generalize (f / 2%2==1)=c at *;generalize (f / 128%2==1)=u at *;generalize (f / 64%2==1)=a at *;generalize (f / 4%2==1)=h at *;generalize (f / 32%2==1)=r at *;generalize ((f / 8%4:Nat):Int)=q at *;obtain⟨D,hD⟩:∃D,pkC (qvmk c u a h r q) adZ=D:=⟨_,rfl⟩
 have hD1:=qwmp (qvmk c u a h r q) adZ;have hD2:=qmz0 (qvmk c u a h r q) adZ;rw[hD] at hD1 hD2 ⊢;have HD:=hid hD;have HD1:=hid hD1;have HD2:=hid hD2;have HZ:=hid qbwp;have hzv:=qrai;have hne:¬pkZ=#[]:=by intro h;have:=qbwp;rw[h] at this;cases this
 have LO:=hid (q8xz (B:=w.heap.size) (k:=w.heap.size) (qybm (w:=w) (.cells pkZ 32)) (Nat.le_refl _) D);clear hD hD1 hD2 hf;go_in;go_wp2_with (first
  |(refine wpList_buildTo rfl 32 _ rfl (some 22) rfl D (by rw[<-HD.out];kernel_rfl) ?_)
  |(refine wpList_store_row rfl _ _ _ rfl w.heap.size D rfl rfl 32 _ (heap_alloc_new w _) (by rw[HD1.out];exact q5nr) (by rw[HZ.out,HD1.out]) HD2.out ?_))
 exact q7wi (cs:=D) rfl rfl rfl underlying32 rfl (by rw[HD1.out];exact q5nr) (setRow_heap _ _ _ _ _ _ (heap_alloc_new w _)) ⟨rfl,LO.out⟩
end
section
variable{w W W':World}{cb:Nat}{s:ByteArray}{x:Cs}{v:Int}
theorem qunn(x:Cs):(x.num 1).1<256:=by
 unfold Cs.num;have h1:=qn9h (x.take 1).1;have hl:(x.take 1).1.length<=1:=by
  unfold Cs.take;split
  ·simp
  ·split
   ·simp
   ·simp;omega
 have:256^(x.take 1).1.length<=256^1:=Nat.pow_le_pow_right (by decide) hl
 omega
theorem qq02:∀f<256,∀b4:Bool,(f%2==0&&(decide ((0:Int)<=(f / 8%4:Nat))&&decide (((f / 8%4:Nat):Int)<=2)&&((f / 4%2==1) || (((f / 8%4:Nat):Int)==0&&!(f / 32%2==1)))&&!(b4&&(f / 64%2==1)&&!(f / 128%2==1))))=
 !(f%2==1 || f / 8%4==3 || (f / 4%2==0&&f / 8%8 != 0) || (b4&&f / 64==1)):=by decide+kernel
theorem qdcd(v:Int){f:Nat}(hf:f<256):(f%2==0&&fitC v (f / 4%2==1) (f / 64%2==1) (f / 128%2==1) (f / 32%2==1) (f / 8%4:Nat))=!qoy6 v f:=qq02 f hf (v==4)
theorem qz9v(y:Cs)(b:Bool)(f:Nat):(if b then y else y.fail f)=if y.e=0/\b=false then y.fail f else y:=by
 cases b
 ·by_cases h:y.e=0
  ·simp[h]
  ·simp[h,Cs.fail]
 ·simp
structure RkS(w:World)(cb:Nat)(s:ByteArray)(v:Int)(y:Cs)(W:World):Prop where
 lt:cb<w.heap.size
 g:w.grownBy W (some cb)
 bx:W.heap[w.heap.size]?=some (.cells #[.pointer (some ⟨cb,0,none⟩),.int .i64 v] 123 (0,0))
 rs:W.heap[w.heap.size+1]?=some (.cells pkZ 32 (0,0))
 cs:CsAt W cb s y
theorem RkS.made(h:CsAt w cb s x):RkS w cb s v x ((w.alloc (.cells #[.pointer (some ⟨cb,0,none⟩),.int .i64 v] 123)).alloc (.cells pkZ 32)):=
 ⟨h.lt,qo6d (World.grownBy_alloc _ _ _) (World.grownBy_alloc _ _ _),heap_alloc2_old _ _ _,heap_alloc2_new _ _ _,(h.alloc _).alloc _⟩
theorem RkS.call{y y':Cs}(h:RkS w cb s v y W)(hc:CsAt W' cb s y')(hg:W.grownBy W' (some cb)):RkS w cb s v y' W':=
 ⟨h.lt,qo6d h.g hg,(hg.block _ (lt_of_block h.bx) (fun e=>by have:=Option.some.inj e;have:=h.lt;omega)).trans h.bx,(hg.block _ (lt_of_block h.rs) (fun e=>by have:=Option.some.inj e;have:=h.lt;omega)).trans h.rs,hc⟩
theorem RkS.below{y:Cs}(h:RkS w cb s v y W)(hb:Below W.heap.size W W'):RkS w cb s v y W':=h.call (h.cs.below hb) (q9cp hb _)
theorem RkS.drew{y:Cs}(h:RkS w cb s v y W):RkS w cb s v y W.drew:=⟨h.lt,qif8 h.g 1,h.bx,h.rs,h.cs⟩
theorem RkS.c0{y:Cs}(h:RkS w cb s v y W):W.cell? ⟨w.heap.size,0,none⟩=some (.pointer (some ⟨cb,0,none⟩)):=cell_of_row _ _ 0 _ _ _ h.bx
theorem RkS.c1{y:Cs}(h:RkS w cb s v y W):W.cell? ⟨w.heap.size,1,none⟩=some (.int .i64 v):=cell_of_row _ _ 1 _ _ _ h.bx
theorem RkS.other{y:Cs}(h:RkS w cb s v y W){B:Nat}(hB:w.heap.size+2<=B)(hg:W.grownBy W' (some B)):RkS w cb s v y W':=
 ⟨h.lt,⟨hg.os.trans h.g.os,hg.tape.trans h.g.tape,hg.output.trans h.g.output,Nat.le_trans h.g.size hg.size,fun k hk hne=>(hg.block k (Nat.lt_of_lt_of_le hk h.g.size) (fun e=>by have:=Option.some.inj e;omega)).trans (h.g.block k hk hne)⟩,
  (hg.block _ (lt_of_block h.bx) (fun e=>by have:=Option.some.inj e;omega)).trans h.bx,(hg.block _ (lt_of_block h.rs) (fun e=>by have:=Option.some.inj e;omega)).trans h.rs,
  h.cs.of_block (hg.block _ h.cs.lt (fun e=>by have:=Option.some.inj e;have:=h.lt;omega))⟩
theorem qb3g(hm:s.size<=9223372036854775807)(h:CsAt w cb s x) :
 Calls prog 172 #[rdrV cb v] w fun e w'=>e=.returned (.agg (pkC (q8ku (x.flags v).1) adZ))/\CsAt w' cb s (x.flags v).2/\w.grownBy w' (some cb):=by
 have S0:=hid (RkS.made (v:=v) h);have OC:=hid (fun W (h:CsAt W cb s x)=>qevs (v:=v) hm h);have hf:=qunn x;unfold Cs.flags;rw[show(if (x.num 1).2.e=0/\qoy6 v (x.num 1).1=true then(x.num 1).2.fail 7 else(x.num 1).2)=(if (!qoy6 v (x.num 1).1) then(x.num 1).2 else(x.num 1).2.fail 7) by rw[qz9v];simp];generalize x.num 1=z at *;obtain⟨f,y⟩:=z;have hw:=qdcd v hf;obtain⟨_,_,_,_,_,_,hb1⟩:=qmn0 f hf;have DE:=hid (qmea f hf);have RQ:=hid (fun(b:Bool) W (h:CsAt W cb s y)=>qr75 (v:=v) b 7 h);have FF:=fun W=>qntu v (c:=pkC (q8ku f) adZ) W (show(pkC (q8ku f) adZ)[10]?=some (.bool (f / 128%2==1)) from rfl) (show(pkC (q8ku f) adZ)[12]?=some (.bool (f / 64%2==1)) from rfl) (show(pkC (q8ku f) adZ)[14]?=some (.bool (f / 4%2==1)) from rfl) (show(pkC (q8ku f) adZ)[17]?=some (.int .i64 (f / 8%4:Nat)) from rfl) (show(pkC (q8ku f) adZ)[18]?=some (.bool (f / 32%2==1)) from rfl);simp only at hf hw ⊢;rw[<-hw];generalize fitC v (f / 4%2==1) (f / 64%2==1) (f / 128%2==1) (f / 32%2==1) (f / 8%4:Nat)=b at *;obtain⟨g,hgb⟩:∃g,(f%2==0&&b)=g:=⟨_,rfl⟩
 rw[hgb];have HGB:=hid hgb;obtain⟨yf,hyf⟩:∃z,(if g=true then y else y.fail 7)=z:=⟨_,rfl⟩
 rw[hyf];have HY:=hid hyf;clear hgb hyf;have hD1:=qwmp (q8ku f) adZ;have hD2:=qmz0 (q8ku f) adZ;generalize pkC (q8ku f) adZ=D at *;have FF:=hid FF;have HD1:=hid hD1;have HD2:=hid hD2;have HZ:=hid qbwp;have hzv:=qrai;have hne:¬pkZ=#[]:=by intro h;have:=qbwp;rw[h] at this;cases this
 obtain⟨m,hm1⟩:∃m,bits .and .i64 (f:Int) 1=m:=⟨_,rfl⟩
 rw[hm1] at hb1;have HM:=hid hm1;unfold rdrV at *;clear hD1 hD2 hf hw h;go_in;have c0:=S0.out.c0;have c1:=S0.out.c1;go_wp2_with fail;refine(OC.out _ S0.out.cs).mono ?_;rintro e W1 ⟨rfl,hc,hg⟩;have S1:=hid (S0.out.call hc hg);clear hc hg c0 c1;have c0:=S1.out.c0;have c1:=S1.out.c1;go_wp2_with fail;refine(DE.out _).mono ?_;rintro e W2 ⟨rfl,hb⟩;have S2:=hid (S1.out.below hb);clear hb c0 c1;have Z2:=hid (show w.heap.size+2<=W2.heap.size from lt_of_block S2.out.rs);have SP:=hid ((S2.out.below (qybm (.cells pkZ 32))).other Z2.out (W':=(W2.alloc (.cells pkZ 32)).setRow W2.heap.size D) (q573 _ _ _));have GP:=hid (setRow_heap _ _ _ D _ _ (heap_alloc_new W2 (.cells pkZ 32)));have CB:=hid S2.out.lt;cases hz:(f%2==0) with
 |true=>
  rw[hz] at hb1;have hgb:=HGB.out;rw[hz,Bool.true_and] at hgb;have HGB2:=hid hgb;clear HGB hgb;have HB:=hid hb1;clear hz hb1
  go_upto_region 3 with (first
   |(refine wpList_store_row rfl _ _ _ rfl W2.heap.size D rfl rfl 32 _ (heap_alloc_new W2 _) (by rw[HD1.out];exact q5nr) (by rw[HZ.out,HD1.out]) HD2.out ?_))
  refine q58n (S:=fun u W=>RkS w cb s v (if u=true then(if b=true then y else y.fail 7) else y) W/\W.heap[W2.heap.size]?=some (.cells D 32 (0,0))) (B:=w.heap.size) (P:=W2.heap.size) ⟨SP.out.drew,GP.out⟩ (fun u W h=>h.1.c0) (fun u W h=>h.1.c1) HM.out HB.out HD1.out (fun u W h=>h.2) (fun u W h=>(FF.out W).mono fun e w' ⟨he,hb⟩=>⟨he,h.1.below hb,(hb.block _ (lt_of_block h.2)).trans h.2⟩) (fun u W h hu=>by subst hu;exact(RQ.out b W h.1.cs).mono fun e w' ⟨he,hc,hg⟩=>⟨he,h.1.call hc hg,(hg.block _ (lt_of_block h.2) (fun e=>by have:=Option.some.inj e;have:=CB.out;have:=Z2.out;omega)).trans h.2⟩) ?_
  intro W3 hS;have hS1:=hS.1;rw[if_pos rfl,HGB2.out,HY.out] at hS1;have S3:=hid hS1;have G3:=hid hS.2;clear hS hS1;go_wp2_with (first
   |(refine wpList_load_row rfl _ _ rfl W2.heap.size rfl 32 D (0,0) _ G3.out underlying32 rfl (by rw[HD1.out];exact q5nr) ?_)
   |(refine wpList_store_row rfl _ _ _ rfl (w.heap.size+1) D rfl rfl 32 _ S3.out.rs (by rw[HD1.out];exact q5nr) (by rw[HZ.out,HD1.out]) HD2.out ?_))
  refine q7wi (cs:=D) rfl rfl rfl underlying32 rfl (by rw[HD1.out];exact q5nr) (setRow_heap _ _ _ _ _ _ S3.out.rs) ⟨rfl,?_,?_⟩
  ·exact S3.out.cs.of_block (setRow_other W3 (w.heap.size+1) cb D (Nat.ne_of_lt (Nat.lt_succ_of_lt S3.out.lt)))
  ·exact qacl S3.out.g (by omega) _
 |false=>
  rw[hz] at hb1;have hgb:=HGB.out;rw[hz,Bool.false_and] at hgb;have HGB2:=hid hgb;clear HGB hgb;have HB:=hid hb1;clear hz hb1
  go_upto_region 3 with (first
   |(refine wpList_store_row rfl _ _ _ rfl W2.heap.size D rfl rfl 32 _ (heap_alloc_new W2 _) (by rw[HD1.out];exact q5nr) (by rw[HZ.out,HD1.out]) HD2.out ?_))
  refine q7fu (S:=fun u W=>RkS w cb s v (if u=true then(if false=true then y else y.fail 7) else y) W/\W.heap[W2.heap.size]?=some (.cells D 32 (0,0))) (B:=w.heap.size) (P:=W2.heap.size) ⟨SP.out.drew,GP.out⟩ (fun u W h=>h.1.c0) (fun u W h=>h.1.c1) HM.out HB.out (fun u W h hu=>by subst hu;exact(RQ.out false W h.1.cs).mono fun e w' ⟨he,hc,hg⟩=>⟨he,h.1.call hc hg,(hg.block _ (lt_of_block h.2) (fun e=>by have:=Option.some.inj e;have:=CB.out;have:=Z2.out;omega)).trans h.2⟩) ?_
  intro W3 hS;have hS1:=hS.1;rw[if_pos rfl,HGB2.out,HY.out] at hS1;have S3:=hid hS1;have G3:=hid hS.2;clear hS hS1;go_wp2_with (first
   |(refine wpList_load_row rfl _ _ rfl W2.heap.size rfl 32 D (0,0) _ G3.out underlying32 rfl (by rw[HD1.out];exact q5nr) ?_)
   |(refine wpList_store_row rfl _ _ _ rfl (w.heap.size+1) D rfl rfl 32 _ S3.out.rs (by rw[HD1.out];exact q5nr) (by rw[HZ.out,HD1.out]) HD2.out ?_))
  refine q7wi (cs:=D) rfl rfl rfl underlying32 rfl (by rw[HD1.out];exact q5nr) (setRow_heap _ _ _ _ _ _ S3.out.rs) ⟨rfl,?_,?_⟩
  ·exact S3.out.cs.of_block (setRow_other W3 (w.heap.size+1) cb D (Nat.ne_of_lt (Nat.lt_succ_of_lt S3.out.lt)))
  ·exact qacl S3.out.g (by omega) _
end
end Go.Proofs.YtombgnfedafkjaaGreatDoor
