/- The contract of mstream.Stream.header. Condition: the packet has at most 2^20 bytes. -/
import Derived.Test.YtefmhbioggcfaaaGreatDoorK45
import Derived.Test.YtefmhbioggcfaaaGreatDoorK46
set_option maxRecDepth 100000
set_option maxHeartbeats 4000000
namespace Go.Proofs.YtefmhbioggcfaaaGreatDoor
open Lib(hid)
open Proofs.Tryz
open Go.RowKit
def q1yk(w:World)(g:Nat)(v:Int)(m:Nat)(kv:Value)(K:List UInt8)(k t e:Nat)(E:Ending)(W:World):Prop:=
 ∃a:Ad,E=.returned (.tuple #[.agg (pkC (q7ku v m K).1 a),.int .i64 ((q7ku v m K).2.2:Nat)])/\PkAt W (q7ku v m K).1 a/\FitM (q7ku v m K).1/\FrA w (q7ku v m K).1 a/\w.grownBy W (some g)/\Stm W g v m kv (qexp v m K) (nxV g (qexp v m K)) k t e
structure HeR(W0:World)(h:Hd)(x:Option Unit×Option Nat×Bool)(W:World):Prop where
 low:Below W0.heap.size W0 W
 box:∀b,x.2.1=some b->W0.heap.size<=b/\∃D,W.heap[b]?=some (.cells D 65 (0,0))/\(x.2.2=false->D=#[.int .i64 0,.int .i64 0,.int .i64 0])/\(x.2.2=true->D=#[.int .i64 h.kind,.int .i64 h.flags,.int .i64 h.length])
section
variable{W0 W W':World}{h:Hd}{x:Option Unit×Option Nat×Bool}
theorem HeR.start(W0:World)(h:Hd):HeR W0 h (none,none,false) W0.drew:=⟨(Below.refl _ _).drew,fun b e=>(by cases e)⟩
theorem HeR.got(s:HeR W0 h x W)(a:Unit)(hb:Below W.heap.size W W'):HeR W0 h (some a,x.2) W':=by refine⟨s.low.trans (hb.mono s.low.size),fun b e=>?_⟩;obtain⟨h1,D,h2,h3⟩:=s.box b e;exact⟨h1,D,(hb.block _ (lt_of_block h2)).trans h2,h3⟩
theorem HeR.boxed(s:HeR W0 h x W)(hs:x.2.2=false):HeR W0 h (x.1,some W.heap.size,x.2.2) (W.alloc (.cells #[.int .i64 0,.int .i64 0,.int .i64 0] 65)):=by refine⟨s.low.trans ((qybm (w:=W) _).mono s.low.size),fun b e=>?_⟩;cases e;exact⟨s.low.size,_,heap_alloc_new _ _,fun _=>rfl,fun e=>by simp only at e;rw[hs] at e;cases e⟩
theorem HeR.stored{a:Unit}{b:Nat}(s:HeR W0 h (some a,some b,false) W):W.heap[b]?=some (.cells #[.int .i64 0,.int .i64 0,.int .i64 0] 65 (0,0))/\HeR W0 h (some a,some b,true) (W.setRow b #[.int .i64 h.kind,.int .i64 h.flags,.int .i64 h.length]):=by obtain⟨h1,D,h2,h3,-⟩:=s.box b rfl;cases h3 rfl;refine⟨h2,q8xz s.low h1 _,fun c e=>?_⟩;cases e;exact⟨h1,_,setRow_heap _ _ _ _ _ _ h2,fun e=>(by cases e),fun _=>rfl⟩
end
section
variable{w w':World}{g m k t e:Nat}{v:Int}{nx kv:Value}{K:List UInt8}
theorem qywf(hc:Stm w g v m kv 0 (nxV g 0) k t e)(hb:Buf w kv K)(hne2:kv.ownBlock≠some g)(hn:K.length<=1048576)(hm:m<=1048576)(few:∀l:List UInt8,l.length<=K.length->FewM v l) :
 Calls prog 23 #[.pointer (some ⟨g,0,none⟩)] w (q1yk w g v m kv K k t e):=by
 have HZ:=hid qbwp;have hzv:=qrai;have hne:¬pkZ=#[]:=by intro h;have:=qbwp;rw[h] at this;cases this
 have PZ:Hid (pkZ.all (·.oneCell')=true):=hid (qmz0 Pk.zero adZ);have R0:=heap_alloc_new w (.cells pkZ 38);have L0:=qybm (w:=w) (.cells pkZ 38);obtain⟨A,c,rfl,hlc,hbuf⟩:=id hb;obtain⟨W,hW⟩:∃W,w.alloc (.cells pkZ 38)=W:=⟨_,rfl⟩
 have hcW:Stm W g v m (.slice A K.length c) 0 (nxV g 0) k t e:=by rw[<-hW];exact hc.below L0
 have hbW:Buf W (.slice A K.length c) K:=by rw[<-hW];exact hb.below L0
 rw[hW] at R0 L0;have h3:=hcW.c3;have hlg:=hc.lt;obtain⟨T,hT⟩:∃T,K.take 5=T:=⟨_,rfl⟩
 have hTl:T.length=min K.length 5:=by rw[<-hT,List.length_take,Nat.min_comm]
 have hfr:=fun W' (h:Below W.heap.size W W')=>(hbW.below h).front (n:=T.length) (by omega) rfl;have hTT:K.take T.length=T:=by rw[hTl,<-hT,List.take_eq_take_iff];omega
 rw[hTT] at hfr;have RD:=fun W=>q5fz v (bs T) W (by rw[q5zk];omega);unfold qm9f HdRd hdV at RD;rw[qkd1,<-hT,qpw8,hT] at RD;obtain⟨⟨h,i,q⟩,hR⟩:∃R,qday v K=R:=⟨_,rfl⟩
 rw[hR] at RD;simp only at RD;have hsl:sliced A 0 T.length c 1=.slice A T.length c:=by
  unfold sliced;rcases hbuf with h|⟨b,o,rfl,-,-⟩
  ·rw[if_pos h,Nat.sub_zero,Nat.sub_zero]
  ·simp[Addr.add_lit]
 have hmin:min (K.length:Int) 5=(T.length:Int):=by omega
 have hTc:(T.length:Int)<=(c:Int):=by omega
 have HL:=hid L0;have HR:=hid R0;have HCW:=hid hcW;have HFR:=hid hfr;have HSL:=hid hsl;replace RD:=hid RD;clear hTT hT hTl hfr hcW hbW;have HLG:=hid hlg;have HNM:=hid (And.intro hn hm);have FEW:=hid few;have HB:=hid hb;have HNE2:=hid hne2;have HRR:=hid hR;clear hn hm few hb hne2 hbuf hlc hc L0 R0 hlg hsl hR
 go_in
 go_wp2_with fail
 go_region
 clear h3 hmin hTc
 go_upto_region 2 with fail
 have HL2:=HL.out.drew;have HR2:W.drew.heap[w.heap.size]?=some (.cells pkZ 38 (0,0)):=HR.out;have HC2:Stm W.drew g v m (.slice A K.length c) 0 (nxV g 0) k t e:=HCW.out;have HB2:Below W.heap.size W W.drew:=(Below.refl _ _).drew;generalize W.drew=W2 at *;refine q34w (S:=HeR W2 h) (v:=v) (u:=bs T) (i:=(i:Nat)) (q:=(q:Nat)) (h:=h) (HeR.start W2 h) (fun x W' h=>(HC2.of_block (h.low.block g HC2.lt)).c1)
  (fun x W' h=>by rw[<-HSL.out];exact HFR.out W' (HB2.trans (h.low.mono HB2.size))) (fun x W' h h1 h2=>(RD.out W').mono fun e W3 ⟨he,hb⟩=>⟨(),he,h.got () hb⟩) (fun x W' h h1 h2=>h.boxed h2) (fun a b W' h=>h.stored) ?_
 rintro⟨⟩ b W3 hS;dsimp only;obtain⟨hb1,D,hrow,-,hD⟩:=hS.box b rfl;cases hD rfl;have R1:W3.heap[w.heap.size]?=some (.cells pkZ 38 (0,0)):=(hS.low.block _ (lt_of_block HR2)).trans HR2;have C3:Stm W3 g v m (.slice A K.length c) 0 (nxV g 0) k t e:=HC2.of_block (hS.low.block g HC2.lt);have LO:=HL2.trans (hS.low.mono HL2.size);have HR3:=hid R1;have HLO:=hid LO;have HC3:=hid C3;have hwb:w.heap.size≠b:=by have:=lt_of_block HR2;omega
 have HWB:=hid hwb;have hd2:W3.cell? ⟨b,2,none⟩=some (.int .i64 h.length):=cell_of_row _ _ 2 _ _ _ hrow;have k2:=C3.c2;have RZ:∀n:Nat,q7ku v m K=(Pk.zero,0,n)/\qexp v m K=0->∀x,q1yk w g v m (.slice A K.length c) K k t e (.returned (.tuple #[.agg pkZ,.int .i64 (n:Nat)])) ((W3.drewN x).setRow w.heap.size pkZ):=fun n hn x=>by unfold q1yk;rw[hn.1,hn.2];exact⟨adZ,rfl,qa3p _,qkys,q16x w,q9cp (q8xz (qnpu HLO.out x) (Nat.le_refl _) _) _,HC3.out.of_block (setRow_other W3 _ g _ (by have:=HLG.out;omega))⟩
 have RZ:=hid RZ;clear hS hrow LO R1 C3 HL2 HR2 HC2 HB2 hb1 hwb HCW HR HL HFR HSL RD hW;by_cases hq:q=0
 ·subst hq;have hh:=qu5k (v:=v) (l:=K) (by rw[HRR.out]);rw[HRR.out] at hh;obtain⟨hh1,hh2,-⟩:=hh;simp only at hh1 hh2;obtain⟨l,hl⟩:∃l:Nat,h.length=(l:Int):=⟨h.length.toNat,by have:=(qri3.1 hh1).2.2.2.1;omega⟩
  have hl9:(l:Int)<=268435455:=by have:=(qri3.1 hh1).2.2.2.2;omega
  have hi9:(i:Int)<=1048576:=by have:=HNM.out.1;omega
  have hm9:(m:Int)<=1048576:=by have:=HNM.out.2;omega
  rw[hl] at hd2;have w1:wrap64 ((m:Int)-(i:Int))=(m:Int)-(i:Int):=by unfold wrap64;omega
  by_cases hlong:(m:Int)<(i:Int)+(l:Int)
  ·have g1:decide ((m:Int)-(i:Int)<(l:Int))=true:=decide_eq_true (by omega);have RL:=hid (RZ.out 4 (qe5z (by rw[HRR.out]) (by rw[HRR.out];simp only;omega)));clear hlong hl hh1 hh2 hl9 hi9 hm9 RZ;go_wp2_with fail;go_quiet (fail);have HR4:Hid ((W3.drewN nq).heap[w.heap.size]?=some (.cells pkZ 38 (0,0))):=HR3;have RL:=hid (RL.out nq);generalize W3.drewN nq=W4 at *;go_wp2_with (first
    |(refine wpList_buildTo rfl 38 _ rfl (some _) rfl pkZ (by kernel_rfl) ?_)
    |(refine wpList_store_row rfl _ _ _ rfl w.heap.size pkZ rfl rfl 38 _ HR4.out (by rw[HZ.out];exact q5nr) rfl PZ.out ?_))
   exact q8iy (cs:=pkZ) rfl rfl rfl rfl underlying38 rfl (by rw[HZ.out];exact q5nr) (setRow_heap _ _ _ _ _ _ HR4.out) RL.out
  ·have g1:decide ((m:Int)-(i:Int)<(l:Int))=false:=decide_eq_false (by omega);have w2:wrap64 ((i:Int)+(l:Int))=((i+l:Nat):Int):=by unfold wrap64;omega
   obtain⟨hi1,-,-⟩:=qajd (v:=v) (l:=K) (by rw[HRR.out]);rw[HRR.out] at hi1;simp only at hi1;have hz:qexp v m K=i+l:=by unfold qexp;rw[HRR.out,if_pos ⟨rfl,by simp only;omega⟩];simp only[hl,Int.toNat_natCast]
   obtain⟨z,hzz⟩:∃z,i+l=z:=⟨_,rfl⟩
   rw[hzz] at w2 hz;have hz0:z≠0:=by omega
   have HZM:=hid (And.intro hz (And.intro hz0 (show z<=1048576 by have:=HNM.out.2;omega)));have hst:=q0gg;clear hlong hl hh1 hh2 hl9 hi9 hm9 RZ hi1 hz hz0 hzz;go_wp2_with fail;go_quiet (fail);have HR4:Hid ((W3.drewN nq).heap[w.heap.size]?=some (.cells pkZ 38 (0,0))):=HR3;have C4:Stm (W3.drewN nq) g v m (.slice A K.length c) 0 (nxV g 0) k t e:=HC3.out;have HLO4:=hid (qnpu HLO.out nq);have hd4:(W3.drewN nq).cell? ⟨b,2,none⟩=some (.int .i64 (l:Int)):=hd2;clear hd2 k2 HC3 HR3 HLO;generalize W3.drewN nq=W4 at *;have S5:=(C4.set4 z).set5 (nxV g z);have G5:=qo6d (q99v W4 g 4 (.int .i64 (z:Nat))) (q99v (W4.setCell ⟨g,4,none⟩ (.int .i64 (z:Nat))) g 5 (nxV g z));have e5:nxV g z=.func (.func 31) #[.pointer (some ⟨g,0,none⟩)] #[]:=by unfold nxV;rw[if_neg HZM.out.2.1]
   rw[e5] at S5 G5;have S5:=hid S5;have G5:=hid G5;have k4:=C4.c4;have k5:=C4.c5;have j4:=C4.fr 4;have j5:=C4.fr 5;clear C4
   go_upto_region 9 with fail
   generalize hW5:(W4.setCell ⟨g,4,none⟩ (.int .i64 (z:Int))).setCell ⟨g,5,none⟩ (.func (.func 31) #[.pointer (some ⟨g,0,none⟩)] #[])=W5 at *;have B5:Buf W5 (.slice A K.length c) K:=HB.out.moved fun b hb hl=>(G5.out.block b (Nat.lt_of_lt_of_le hl HLO4.out.size) (fun e=>HNE2.out (by rw[hb,e]))).trans (HLO4.out.block b hl);have hR5:W5.heap[w.heap.size]?=some (.cells pkZ 38 (0,0)):=(G5.out.block _ (lt_of_block HR4.out) (fun e=>by have:=HLG.out;have:=Option.some.inj e;omega)).trans HR4.out;have BD:=q8uk S5.out B5 HNM.out.1 HZM.out.2.2 FEW.out;have hR2:(if K.length<z then(Pk.zero,3) else((qyib v (K.take z)).1,(qyib v (K.take z)).2.2))=((q7ku v m K).1,(q7ku v m K).2.2):=by
    rw[<-HZM.out.1];have h0:qexp v m K≠0:=by rw[HZM.out.1];exact HZM.out.2.1
    split
    ·rename_i hlt;rw[q237 h0 hlt]
    ·rename_i hlt;rw[(qzs6 h0 (by omega)).1]
   rw[hR2] at BD;have k5:=S5.out.c5;have G6:w.grownBy W5 (some g):=qo6d (q9cp HLO4.out _) G5.out;have HG6:=hid G6;have HB5:=hid hR5;replace BD:=hid BD;unfold q3fk at BD;have HZE:=HZM.out.1;have NW:∀a W6,PkAt W6 (q7ku v m K).1 a->FitM (q7ku v m K).1->Below W5.heap.size W5 W6->FrA W5 (q7ku v m K).1 a->q1yk w g v m (.slice A K.length c) K k t e (.returned (.tuple #[.agg (pkC (q7ku v m K).1 a),.int .i64 ((q7ku v m K).2.2:Nat)])) (W6.setRow w.heap.size (pkC (q7ku v m K).1 a)):=fun a W6 p1 p2 p3 p4=>by refine⟨a,rfl,p4.row (lt_of_block hR5) p1 _,p2,p4.mono G6.size,qacl (qo6d G6 (q9cp p3 _)) (Nat.le_refl _) _,?_⟩;rw[HZE,e5];exact(S5.out.below p3).of_block (setRow_other _ _ _ _ (by have:=HLG.out;omega))
   have NW:=hid NW;clear B5 hR5 G6 hW5 hR2 HZE hst j4 j5 k4 hd4 w1 w2 g1 S5 G5;obtain⟨⟨P,n,q⟩,hN⟩:∃R,q7ku v m K=R:=⟨_,rfl⟩
   rw[hN] at BD NW;simp only at BD NW;clear hN;go_wp2_with fail;refine BD.out.mono ?_;rintro e0 W6 ⟨a,rfl,p1,p2,p3,p4⟩;have HE:=hid (NW.out a W6 p1 p2 p3 p4);have R6:W6.heap[w.heap.size]?=some (.cells pkZ 38 (0,0)):=(p3.block _ (lt_of_block HB5.out)).trans HB5.out;have HR6:=hid R6;have hD1:=qwmp P a;have hD2:=qmz0 P a;generalize pkC P a=D at *;have HD1:=hid hD1;have HD2:=hid hD2;clear p1 p2 p3 p4 R6 hD1 hD2 BD NW;go_wp2_with (refine wpList_store_row rfl _ _ _ rfl w.heap.size D rfl rfl 38 _ HR6.out (by rw[HD1.out];exact q5nr) (by rw[HZ.out,HD1.out]) HD2.out ?_);exact q8iy (cs:=D) rfl rfl rfl rfl underlying38 rfl (by rw[HD1.out];exact q5nr) (setRow_heap _ _ _ _ _ _ HR6.out) HE.out
 ·have q1:((q:Int) != 0)=true:=by simp;omega
  have RL:=hid (RZ.out q (by have:=qdul (v:=v) (m:=m) (l:=K) (by rw[HRR.out];exact hq);rw[HRR.out] at this;exact this) 0);clear hq RZ;go_wp2_with (first
   |(refine wpList_buildTo rfl 38 _ rfl (some _) rfl pkZ (by kernel_rfl) ?_)
   |(refine wpList_store_row rfl _ _ _ rfl w.heap.size pkZ rfl rfl 38 _ HR3.out (by rw[HZ.out];exact q5nr) rfl PZ.out ?_))
  exact q8iy (cs:=pkZ) rfl rfl rfl rfl underlying38 rfl (by rw[HZ.out];exact q5nr) (setRow_heap _ _ _ _ _ _ HR3.out) RL.out
end
def PkW(w:World)(f:Nat)(kv x:Value)(W:World)(q:Pa):Prop:=
 PkAt W q.1 q.2/\FitM q.1/\∀i,q10u q.1 q.2 i->w.heap.size<=i/\x.ownBlock≠some i/\kv.ownBlock≠some i/\i≠f
structure TlS(w:World)(g:Nat)(v:Int)(m:Nat)(o:Option Nat)(f:Nat)(kv:Value)(K:List UInt8)(z k t e:Nat)(x:Value)(G:List Pa)(W:World):Prop where
 lt:g<w.heap.size
 kp:StK w W g o
 nb:NewB w o kv.ownBlock
 st:Stm W g v m kv z (nxV g z) k t e
 bf:Buf W kv K
 kg:kv.ownBlock≠some g
 kf:kv.ownBlock≠some f
 kl:∀b,kv.ownBlock=some b->b<W.heap.size
 ow:W.ownsRow w.heap.size 38 25 x G.length (pkCs G)
 xf:x.ownBlock≠some f
 xk:∀i,x.ownBlock=some i->kv.ownBlock≠some i
 pk:∀q∈G,PkW w f kv x W q
section
variable{w W W':World}{g m f z k t e z' k' t' e':Nat}{v:Int}{o:Option Nat}{kv kv' x x':Value}{K K':List UInt8}{G:List Pa}{q:Pa}
theorem PkW.kept(h:PkW w f kv x W q)(hs:W.heap.size<=W'.heap.size)(hb:∀i,q10u q.1 q.2 i->W'.heap[i]?=W.heap[i]?):PkW w f kv x W' q:=⟨h.1.moved hs hb,h.2⟩
theorem TlS.call(h:TlS w g v m o f kv K z k t e x G W)(hb:Below W.heap.size W W'):TlS w g v m o f kv K z k t e x G W':=
 ⟨h.lt,⟨hb.os.trans h.kp.os,hb.tape.trans h.kp.tape,hb.output.trans h.kp.output,Nat.le_trans h.kp.size hb.size,fun i hi h1 h2=>(hb.block i (Nat.lt_of_lt_of_le hi h.kp.size)).trans (h.kp.block i hi h1 h2)⟩,
  h.nb,h.st.below hb,h.bf.below hb,h.kg,h.kf,fun b hk=>Nat.lt_of_lt_of_le (h.kl b hk) hb.size,qzd3 h.ow hb,h.xf,h.xk,fun q hq=>(h.pk q hq).kept hb.size fun _ hi=>hb.block _ ((h.pk q hq).1.lists_lt hi)⟩
theorem TlS.upd(h:TlS w g v m o f kv K z k t e x G W)(hg:StK W W' g kv.ownBlock)(hs:Stm W' g v m kv' z' (nxV g z') k' t' e')(hb:Buf W' kv' K')(hn:NewB W kv.ownBlock kv'.ownBlock)(hl:∀b,kv'.ownBlock=some b->b<W'.heap.size)(hf:f<W.heap.size):TlS w g v m o f kv' K' z' k' t' e' x G W':=by
 have hx:∀i,x.ownBlock=some i->w.heap.size<=i/\i<W.heap.size/\i≠g:=fun i hi=>by
  have:=h.ow.lt i hi
  have:=h.lt
  omega
 refine⟨h.lt,h.kp.trans hg h.nb,h.nb.trans hn h.kp.size,hs,hb,hn.ne h.st.lt h.kg,hn.ne hf h.kf,hl,?_,h.xf,fun i hi=>?_,fun q hq=>?_⟩
 ·rcases h.ow.2 with h0|⟨i,c,cur,rfl,h1,h2,h3⟩
  ·exact⟨h.ow.1,.inl h0⟩
  ·obtain⟨-,a1,a2⟩:=hx i rfl;exact⟨h.ow.1,.inr ⟨i,c,cur,rfl,h1,(hg.block i a1 a2 (h.xk i rfl)).trans h2,h3⟩⟩
 ·exact hn.ne (hx i hi).2.1 (h.xk i hi)
 ·obtain⟨p1,p2,p3⟩:=h.pk q hq;have hlt:∀i,q10u q.1 q.2 i->i<W.heap.size:=fun i hi=>p1.lists_lt hi;exact⟨p1.moved hg.size fun i hi=>hg.block i (hlt i hi) (fun e=>by have:=(p3 i hi).1;have:=h.lt;omega) (p3 i hi).2.2.1,p2,fun i hi=>⟨(p3 i hi).1,(p3 i hi).2.1,hn.ne (hlt i hi) (p3 i hi).2.2.1,(p3 i hi).2.2.2⟩⟩
theorem TlS.same(h:TlS w g v m o f kv K z k t e x G W)(hg:W.grownBy W' (some g))(hs:Stm W' g v m kv z' (nxV g z') k' t' e')(hf:f<W.heap.size):TlS w g v m o f kv K z' k' t' e' x G W':=
 h.upd (StK.of1 hg) hs (h.bf.moved fun b hb _=>hg.block b (h.kl b hb) (fun e=>h.kg (by rw[hb,e]))) (.inl rfl) (fun b hb=>Nat.lt_of_lt_of_le (h.kl b hb) hg.size) hf
theorem TlS.fresh(h:TlS w g v m o f kv K z k t e x G W)(f':Nat)(hf:W.heap.size<=f'):TlS w g v m o f' kv K z k t e x G W:=
 ⟨h.lt,h.kp,h.nb,h.st,h.bf,h.kg,(fun e=>by have:=h.kl _ e;omega),h.kl,h.ow,(fun e=>by have:=(h.ow.lt _ e).2;omega),h.xk,fun q hq=>⟨(h.pk q hq).1,(h.pk q hq).2.1,fun i hi=>⟨((h.pk q hq).2.2 i hi).1,((h.pk q hq).2.2 i hi).2.1,((h.pk q hq).2.2 i hi).2.2.1,fun e=>by have:=(h.pk q hq).1.lists_lt hi;omega⟩⟩⟩
theorem TlS.back(h:TlS w g v m o f kv K z k t e x G W):TlS w g v m o g kv K z k t e x G W:=
 ⟨h.lt,h.kp,h.nb,h.st,h.bf,h.kg,h.kg,h.kl,h.ow,(fun e=>by have:=(h.ow.lt _ e).1;have:=h.lt;omega),h.xk,fun q hq=>⟨(h.pk q hq).1,(h.pk q hq).2.1,fun i hi=>⟨((h.pk q hq).2.2 i hi).1,((h.pk q hq).2.2 i hi).2.1,((h.pk q hq).2.2 i hi).2.2.1,fun e=>by have:=((h.pk q hq).2.2 i hi).1;have:=h.lt;omega⟩⟩⟩
theorem TlS.row(h:TlS w g v m o f kv K z k t e x G W)(hf:w.heap.size<=f)(D:Array Value):TlS w g v m o f kv K z k t e x G (W.setRow f D):=by
 have ob:∀i,i≠f->(W.setRow f D).heap[i]?=W.heap[i]? := fun i hi=>setRow_other W f i D hi;have sz:(W.setRow f D).heap.size=W.heap.size:=by simp[World.setRow]
 refine⟨h.lt,⟨h.kp.os,h.kp.tape,h.kp.output,by rw[sz];exact h.kp.size,fun i hi h1 h2=>(ob i (by omega)).trans (h.kp.block i hi h1 h2)⟩,h.nb,h.st.of_block (ob g (by have:=h.lt;omega)),h.bf.moved fun b hb _=>ob b (fun e=>h.kf (by rw[hb,e])),h.kg,h.kf,by rw[sz];exact h.kl,?_,h.xf,h.xk,
  fun q hq=>(h.pk q hq).kept (by rw[sz];exact Nat.le_refl _) fun i hi=>ob i ((h.pk q hq).2.2 i hi).2.2.2⟩
 rcases h.ow.2 with h0|⟨i,c,cur,rfl,h1,h2,h3⟩
 ·exact⟨h.ow.1,.inl h0⟩
 ·exact⟨h.ow.1,.inr ⟨i,c,cur,rfl,h1,(ob i (fun e=>h.xf (by rw[e];rfl))).trans h2,h3⟩⟩
theorem TlS.app(h:TlS w g v m o f kv K z k t e x G W)(hq:PkW w f kv x W q)(ho:W'.ownsRow w.heap.size 38 25 x' (G.length+1) (pkCs G++(pkC q.1 q.2).toList))(hg:W.grownBy W' x.ownBlock)(hn:x'.ownBlock=x.ownBlock\/x'.ownBlock=some W.heap.size)(hf:f<W.heap.size):TlS w g v m o f kv K z k t e x' (G++[q]) W':=by
 have hxg:∀i,x.ownBlock=some i->w.heap.size<=i:=fun i hi=>(h.ow.lt i hi).1;have ne:∀i,x.ownBlock≠some i->i<W.heap.size->x'.ownBlock≠some i:=fun i h1 h2=>by
  rcases hn with e|e
  ·rw[e];exact h1
  ·rw[e];intro e2;have:=Option.some.inj e2;omega
 refine⟨h.lt,⟨hg.os.trans h.kp.os,hg.tape.trans h.kp.tape,hg.output.trans h.kp.output,Nat.le_trans h.kp.size hg.size,fun i hi h1 h2=>(hg.block i (Nat.lt_of_lt_of_le hi h.kp.size) (fun e=>by have:=hxg i e.symm;omega)).trans (h.kp.block i hi h1 h2)⟩,h.nb,
  h.st.of_block (hg.block g h.st.lt (fun e=>by have:=hxg g e.symm;have:=h.lt;omega)),h.bf.moved fun b hb hl=>hg.block b hl (fun e=>h.xk b e.symm hb),h.kg,h.kf,fun b hb=>Nat.lt_of_lt_of_le (h.kl b hb) hg.size,?_,ne f h.xf hf,fun i hi hk=>?_,fun r hr=>?_⟩
 ·rw[q0mi,List.length_append];have e:pkCs [q]=(pkC q.1 q.2).toList:=by simp[pkCs]
  rw[e];exact ho
 ·exact ne i (fun e=>h.xk i e hk) (h.kl i hk) hi
 ·have hr2:PkW w f kv x W r:=by
   rcases List.mem_append.1 hr with hr|hr
   ·exact h.pk r hr
   ·obtain rfl:r=q:=by simpa using hr
    exact hq
  obtain⟨p1,p2,p3⟩:=hr2;exact⟨p1.moved hg.size fun i hi=>hg.block i (p1.lists_lt hi) (fun e=>(p3 i hi).2.1 e.symm),p2,fun i hi=>⟨(p3 i hi).1,ne i (p3 i hi).2.1 (p1.lists_lt hi),(p3 i hi).2.2⟩⟩
end
theorem qbcq:(prog.info? 38).map (fun i=>(i.zero,i.size,i.bytes))=some (some (.agg pkZ),25,312):=by kernel_rfl
theorem q6am{w:World}{g m z k t e:Nat}{v:Int}{kv:Value}{K:List UInt8}(hz:z=0\/z=qexp v m K)(hc:Stm w g v m kv z (nxV g z) k t e)(hb:Buf w kv K)(hne2:kv.ownBlock≠some g)(hn:K.length<=1048576)(hm:m<=1048576)(few:∀l:List UInt8,l.length<=K.length->FewM v l) :
 Calls prog (if z=0 then 23 else 31) #[.pointer (some ⟨g,0,none⟩)] w (q1yk w g v m kv K k t e):=by
 by_cases h0:z=0
 ·subst h0;rw[if_pos rfl];exact qywf hc hb hne2 hn hm few
 ·have hz:=hz.resolve_left h0;rw[if_neg h0];refine(q8uk hc hb hn (by rw[hz];exact Nat.le_trans (qvu1 _ _ _) hm) few).mono ?_;rintro E W ⟨a,rfl,p1,p2,p3,p4⟩;have hR:(if K.length<z then(Pk.zero,3) else((qyib v (K.take z)).1,(qyib v (K.take z)).2.2))=((q7ku v m K).1,(q7ku v m K).2.2):=by
   rw[hz] at h0 ⊢;split
   ·rename_i hlt;rw[q237 h0 hlt]
   ·rename_i hlt;rw[(qzs6 h0 (by omega)).1]
  rw[hR] at p1 p2 p4 ⊢;refine⟨a,rfl,p1,p2,p4,q9cp p3 _,?_⟩;rw[<-hz];exact hc.below p3
def ql6b(w:World)(g:Nat)(v:Int)(m:Nat)(o:Option Nat)(R:List Pk×List UInt8×Nat×Nat)(k t:Nat)(G:List Pa)(E:Ending)(W:World):Prop:=
 ∃x kv z G',E=.returned x/\TlS w g v m o g kv R.2.1 z (k+R.2.2.1) (t+R.1.length) R.2.2.2 x (G++G') W/\G'.map (·.1)=R.1/\(R.2.2.2=0->z=qexp v m R.2.1)
structure TelK(w:World)(g:Nat)(v:Int)(m:Nat)(o:Option Nat)(R:List Pk×List UInt8×Nat×Nat)(k t L:Nat)(G:List Pa)(B:Nat)(kv:Value)(K:List UInt8)(k1 t1:Nat)(x:Value)(G1:List Pa)(P:Pk)(n q:Nat)(a:Ad)(W:World):Prop where
 nx:q7ku v m K=(P,n,q)
 st:TlS w g v m o B kv K (qexp v m K) k1 t1 0 x (G++G1) W
 bx:W.heap[B]?=some (.cells (pkC P a) 38 (0,0))
 pk:PkW w B kv x W (P,a)
 r1:R.1=G1.map (·.1)++(goW v m K).1
 r2:R.2.1=(goW v m K).2.1
 r3:k+R.2.2.1=k1+(goW v m K).2.2.1
 r4:R.2.2.2=(goW v m K).2.2.2
 l1:G1.length+K.length<=L
 l2:k1+K.length<=k+L
 l3:t1=t+G1.length
 lb:w.heap.size<=B
section
variable{w W W':World}{g m k t L B k1 t1 n q:Nat}{v:Int}{o:Option Nat}{R:List Pk×List UInt8×Nat×Nat}{kv x:Value}{K:List UInt8}{G G1:List Pa}{P:Pk}{a:Ad}
theorem TelK.done(h:TelK w g v m o R k t L G B kv K k1 t1 x G1 P n 3 a W):R=(G1.map (·.1),K,k1-k,0)/\k+R.2.2.1=k1:=by
 have hs:=qc57 (v:=v) (m:=m) (l:=K) (by rw[h.nx])
 have:=h.r3
 rw[hs] at this;simp only[Nat.add_zero] at this;refine⟨?_,this⟩;have e1:=h.r1;have e2:=h.r2;have e4:=h.r4;rw[hs] at e1 e2 e4;simp only[List.append_nil] at e1;obtain⟨a,b,c,d⟩:=R;simp only at e1 e2 e4 this ⊢;rw[e1,e2,e4,<-this];simp
theorem TelK.fails(h:TelK w g v m o R k t L G B kv K k1 t1 x G1 P n q a W)(h3:q≠3)(h0:q≠0):R.1=G1.map (·.1)/\R.2.1=[]/\k+R.2.2.1=k1/\R.2.2.2=q:=by have hs:=qcgl (v:=v) (m:=m) (l:=K) (by rw[h.nx];exact h3) (by rw[h.nx];exact h0);have e1:=h.r1;have e2:=h.r2;have e3:=h.r3;have e4:=h.r4;rw[hs] at e1 e2 e3 e4;simp only[List.append_nil,Nat.add_zero,h.nx] at e1 e2 e3 e4;exact⟨e1,e2,e3,e4⟩
theorem PkW.got{f z e:Nat}(h:TlS w g v m o f kv K z k t e x G W)(p1:PkAt W' P a)(p2:FitM P)(fr:FrA W P a){f':Nat}(hf:∀i,q10u P a i->i≠f'):PkW w f' kv x W' (P,a):=
 ⟨p1,p2,fun i hi=>by
  have h1:=fr.lists hi;refine⟨Nat.le_trans h.kp.size h1,fun e=>?_,fun e=>?_,hf i hi⟩
  ·have:=(h.ow.lt i e).2;omega
  ·have:=h.kl i e;omega⟩
theorem PkW.row{f:Nat}{q:Pa}(h:PkW w f kv x W q)(D:Array Value):PkW w f kv x (W.setRow f D) q:=
 h.kept (by simp[World.setRow]) fun i hi=>setRow_other W f i D (h.2.2 i hi).2.2.2
theorem TelK.start{z:Nat}(h:TlS w g v m o g kv K z k t 0 x G W)(h':TlS w g v m o g kv K (qexp v m K) k t 0 x G W')(hN:q7ku v m K=(P,n,q))(p1:PkAt W' P a)(p2:FitM P)(fr:FrA W P a):TelK w g v m o (goW v m K) k t K.length G W'.heap.size kv K k t x [] P n q a ((W'.alloc (.cells pkZ 38)).setRow W'.heap.size (pkC P a)):=by
 have hs:=h'.kp.size;have hb:=qybm (w:=W') (.cells pkZ 38);refine⟨hN,?_,setRow_heap _ _ _ _ _ _ (heap_alloc_new _ _),?_,rfl,rfl,rfl,rfl,by simp,Nat.le_refl _,rfl,hs⟩
 ·rw[List.append_nil];exact((h'.fresh W'.heap.size (Nat.le_refl _)).call hb).row hs _
 ·exact(PkW.got h (p1.below hb) p2 fr fun i hi=>by have:=p1.lists_lt hi;omega).row _
theorem TelK.step{z n' q':Nat}{P':Pk}{a':Ad}{x' kv':Value}(h:TelK w g v m o R k t L G B kv K k1 t1 x G1 P n 0 a W)(hz:qexp v m K=z)(hs:TlS w g v m o B kv' (K.drop z) (qexp v m (K.drop z)) (k1+z) (t1+1) 0 x' ((G++G1)++[(P,a)]) W')(hN:q7ku v m (K.drop z)=(P',n',q'))
 (hb:W'.heap[B]?=some (.cells (pkC P' a') 38 (0,0))) (hp:PkW w B kv' x' W' (P',a')):TelK w g v m o R k t L G B kv' (K.drop z) (k1+z) (t1+1) x' (G1++[(P,a)]) P' n' q' a' W':=by
 have h0:(q7ku v m K).2.2=0:=by rw[h.nx]
 obtain⟨-,b1,b2,b3⟩:=qnyoi h0;have hw:=q6ca h0;rw[b2,hz,h.nx] at hw;rw[hz] at b1 b3;have e1:=h.r1;have e2:=h.r2;have e3:=h.r3;have e4:=h.r4;have e5:=h.l1;have e6:=h.l2;have e7:=h.l3;rw[hw] at e1 e2 e3 e4;simp only at e1 e2 e3 e4;refine⟨hN,by rw[<-List.append_assoc];exact hs,hb,hp,by rw[e1];simp,e2,by omega,e4,?_,?_,?_,h.lb⟩
 ·rw[List.length_append,List.length_singleton,List.length_drop];omega
 ·rw[List.length_drop];omega
 ·rw[List.length_append,List.length_singleton];omega
end
theorem qydk{w W:World}{g m z k t:Nat}{v:Int}{o:Option Nat}{kv x:Value}{K:List UInt8}{G:List Pa}(h:TlS w g v m o g kv K z k t 0 x G W)(hz:z=0\/z=qexp v m K)(hn:K.length<=1048576)(hm:m<=1048576)(hG:G.length<=400000000000)(hk:k<=400000000000)(ht:t<=400000000000)(few:∀l:List UInt8,l.length<=K.length->FewM v l) :
 Calls prog 25 #[.pointer (some ⟨g,0,none⟩),x] W (ql6b w g v m o (goW v m K) k t G):=by
 have HZ:=hid qbwp;have hzv:=qrai;have hne:¬pkZ=#[]:=by intro h;have:=qbwp;rw[h] at this;cases this
 obtain⟨i0,hi,hz0,hz1,hz2⟩:=info_parts qbcq;obtain⟨R,hR⟩:∃R,goW v m K=R:=⟨_,rfl⟩
 rw[hR];have NX:=q6am hz h.st h.bf h.kg hn hm few;unfold q1yk at NX;have h7:=h.st.c7;have h5:=h.st.c5;have HS:=hid h;have HB:=hid (And.intro hn (And.intro hm (And.intro hG (And.intro hk ht))));have FEW:=hid few;have HR:=hid hR;unfold nxV at h5;obtain⟨F,hF⟩:∃F,(if z=0 then 23 else 31)=F:=⟨_,rfl⟩
 rw[hF] at NX h5;have hFF:F=23\/F=31:=by rw[<-hF];split;exact .inl rfl;exact .inr rfl
 replace NX:=hid NX;clear h hn hm hG hk ht few hR hF hz;rcases hFF with rfl|rfl
 all_goals
  go_in
  go_wp2_with fail;refine NX.out.mono ?_;rintro e0 W1 ⟨a,rfl,p1,p2,p3,p4,p5⟩;have SS:=HS.out.same p4 p5 HS.out.st.lt;have T00:=fun(P:Pk) (n q:Nat)=>TelK.start (P:=P) (n:=n) (q:=q) (a:=a) HS.out SS;obtain⟨⟨P,n,q⟩,hN⟩:∃R,q7ku v m K=R:=⟨_,rfl⟩
  rw[hN] at p1 p2 p3 ⊢;simp only at p1 p2 p3 ⊢;have T0:=hid (T00 P n q hN p1 p2 p3);rw[HR.out] at T0;have hD1:=qwmp P a;have hD2:=qmz0 P a;obtain⟨D,hD⟩:∃D,pkC P a=D:=⟨_,rfl⟩
  rw[hD] at hD1 hD2 T0 ⊢;have HD:=hid hD;have HD1:=hid hD1;have HD2:=hid hD2;clear p1 p2 p3 p4 p5 SS NX T00 hN hD hD1 hD2 h5 h7;go_wp2_with (refine wpList_store_row rfl _ _ _ rfl W1.heap.size D rfl rfl 38 _ (heap_alloc_new W1 _) (by rw[HD1.out];exact q5nr) (by rw[HZ.out,HD1.out]) HD2.out ?_);generalize hB:W1.heap.size=B at *;generalize (W1.alloc (.cells pkZ 38)).setRow B D=W2 at *
  go_loopg [1,7] K.length (fun gk s1 s7 wr=>∃kv1 K1 k1 t1 G1 P n q a x1,gk=K1.length/\x1=s1/\s7=.int .i64 (q:Nat)/\TelK w g v m o R k t K.length G B kv1 K1 k1 t1 x1 G1 P n q a wr)
  case atStart=>exact⟨kv,K,k,t,[],P,n,q,a,_,rfl,rfl,rfl,T0.out⟩
  case round=>
   obtain⟨kv1,K1,k1,t1,G1,P1,n1,q1,a1,x1,rfl,rfl,rfl,hT⟩:=hrel;clear T0 HD HD1 HD2 HR;have HB2:=hT.bx;have HBL:=lt_of_block HB2;have HT:=hid hT;have h7:=hT.st.st.c7;by_cases q0:q1=0
   ·subst q0;obtain⟨-,b1,-,b3⟩:=qnyoi (v:=v) (m:=m) (l:=K1) (by rw[hT.nx]);obtain⟨A1,c1,hkv,-,hbd,hod⟩:=hT.st.bf.drop b1;obtain⟨z1,hz1'⟩:∃z1,qexp v m K1=z1:=⟨_,rfl⟩
    rw[hz1'] at b1 b3 hbd hod;have hD1:=qwmp P1 a1;have hD2:=qmz0 P1 a1;have SA:=hid (hT.st.call (qybm (.cells (pkC P1 a1) 38)));have PK2:=hid (hT.pk.kept (qybm (w:=wr) (.cells (pkC P1 a1) 38)).size fun i hi=>(qybm (w:=wr) (.cells (pkC P1 a1) 38)).block i (hT.pk.1.lists_lt hi));have CB:=hid (fun(j:Nat) (u:Value) (hj:(pkC P1 a1).toList[j]?=some u)=>(show(wr.alloc (.cells (pkC P1 a1) 38)).cell? ((⟨wr.heap.size,0,none⟩:Addr).add j)=some u by rw[Addr.add_lit,Nat.zero_add];exact(cell_of_row _ _ j _ _ _ (heap_alloc_new wr _)).trans (by simpa using hj)))
    obtain⟨D,hD⟩:∃D,pkC P1 a1=D:=⟨_,rfl⟩
    rw[hD] at hD1 hD2 HB2 SA PK2 CB;have HD:=hid hD;have HD1:=hid hD1;have HD2:=hid hD2;have HBX:=hid HB2;have HLT:=hid (And.intro HBL (And.intro b1 (And.intro b3 hz1')));have HKV:=hid hkv;clear hT h7 hbd hod hD1 hD2 hD HB2 HBL b1 b3 hkv hz1';go_wp2_with (first
     |(refine wpList_load_row rfl _ _ rfl B rfl 38 D (0,0) _ HBX.out underlying38 rfl (by rw[HD1.out];exact q5nr) ?_)
     |(refine wpList_buildSlice rfl 25 38 1 _ rfl D i0 (.agg pkZ) underlying25 hi hz0 (by rw[hz1];decide) (by rw[hz1];decide) (by rw[hz1,<-HD.out];kernel_rfl) ?_)
     |(at_builtin;refine wpList_append_own_at _ rfl _ _ 25 rfl w.heap.size 38 i0 (.agg pkZ) 25 312 underlying25 hi hz0 hz1 hz2 rfl (by decide) _ _ _ rfl SA.out.ow ⟨wr.heap.size,0,none⟩ 1 1 D.toList rfl ?c0 CB.out ?c1 ?c2 ?c3 SA.out.kp.size ?_))
    case c0=>rw[Array.length_toList,HD1.out]
    case c1=>exact fun u hu=>(Array.all_eq_true'.1 HD2.out) u (by simpa using hu)
    case c2=>have:=HT.out.l1;have:=HB.out;rw[List.length_append];simp only[maxLen];omega
    case c3=>have:=HT.out.l1;have:=HB.out;rw[List.length_append];omega
    intro x' W3 ho hg _ hor;rw[<-HD.out,<-List.length_append] at ho;have S4:=hid (SA.out.app (q:=(P1,a1)) PK2.out ho hg (by rw[World.size_alloc];exact hor) (by rw[World.size_alloc];have:=HLT.out.1;omega));have gs:wr.heap.size<=W3.heap.size:=by have:=hg.size;rw[World.size_alloc] at this;omega
    have b3:W3.heap[B]?=some (.cells D 38 (0,0)):=(hg.block B (by rw[World.size_alloc];have:=HLT.out.1;omega) (fun e=>HT.out.st.xf e.symm)).trans ((heap_alloc_old _ _ HLT.out.1).trans HBX.out);have HB3:=hid (And.intro gs b3);clear ho hg hor SA PK2 CB gs b3;have hst4:=S4.out.st;rw[HKV.out] at hst4;have PS:=hid (q2pp hst4 (by have:=HLT.out;omega) (by have:=HT.out.l1;have:=HB.out;omega) (by have:=HT.out.l2;have:=HB.out;omega) (by have:=HT.out.l1;have:=HT.out.l3;have:=HB.out;omega));rw[HLT.out.2.2.2] at PS;clear hst4;go_wp2_with fail;refine PS.out.mono ?_;rintro e4 W4 ⟨rfl,p1,p2⟩;obtain⟨A2,c2,hkv2,-,hbd,hod⟩:=S4.out.bf.drop HLT.out.2.1;have hA2:=hkv2.symm.trans HKV.out;cases hA2;have S5:=S4.out.upd (StK.of1 p2) p1 (hbd.moved fun b hb _=>p2.block b (S4.out.kl b (hod▸hb)) (fun e=>S4.out.kg (by rw[<-hod,hb,e]))) (.inl hod) (fun b hb=>Nat.lt_of_lt_of_le (S4.out.kl b (hod▸hb)) p2.size) (by have:=HLT.out.1;have:=HB3.out.1;omega);have NX:=q6am (.inl rfl) S5.st S5.bf S5.kg (by rw[List.length_drop];have:=HT.out.l1;have:=HB.out;omega) HB.out.2.1 (fun l hl=>FEW.out l (by rw[List.length_drop] at hl;have:=HT.out.l1;omega));rw[if_pos rfl] at NX;have h5:=S5.st.c5;rw[show nxV g 0=.func (.func 23) #[.pointer (some ⟨g,0,none⟩)] #[] from rfl] at h5;have hB4:B<W4.heap.size:=by have:=HLT.out.1;have:=HB3.out.1;have:=p2.size;omega
    have b4:W4.heap[B]?=some (.cells D 38 (0,0)):=(p2.block B (lt_of_block HB3.out.2) (fun e=>by have:=HT.out.lb;have:=HS.out.lt;have:=Option.some.inj e;omega)).trans HB3.out.2;have S5:=hid S5;have HB4:=hid (And.intro hB4 b4);unfold q1yk at NX;have NX:=hid NX;clear p1 p2 hkv2 hbd hod S4 PS hB4 b4;go_wp2_with fail;refine NX.out.mono ?_;rintro e5 W5 ⟨a2,rfl,p1,p2,p3,p4,p5⟩;have hBX:=lt_of_block HB4.out.2;have S6:=S5.out.same p4 p5 hBX;have hrow5:W5.heap[B]?=some (.cells D 38 (0,0)):=(p4.block B hBX (fun e=>by have:=HT.out.lb;have:=HS.out.lt;have:=Option.some.inj e;omega)).trans HB4.out.2;have PG:=PkW.got S5.out p1 p2 p3 (f':=B) (fun i hi=>by have:=p3.lists hi;omega);have NEW:=fun P' n' q' (e:q7ku v m (K1.drop z1)=(P',n',q'))=>HT.out.step (P':=P') (a':=a2) (n':=n') (q':=q') HLT.out.2.2.2 (S6.row HT.out.lb _) e (setRow_heap _ _ _ _ _ _ hrow5);obtain⟨⟨P2,n2,q2⟩,hN⟩:∃R,q7ku v m (K1.drop z1)=R:=⟨_,rfl⟩
    rw[hN] at PG ⊢;simp only at PG ⊢;have NEW:=hid (NEW P2 n2 q2 hN (PG.row _));have hE1:=qwmp P2 a2;have hE2:=qmz0 P2 a2;have HR5:=hid hrow5;obtain⟨E,hE⟩:∃E,pkC P2 a2=E:=⟨_,rfl⟩
    rw[hE] at hE1 hE2 NEW ⊢;have HE1:=hid hE1;have HE2:=hid hE2;clear p1 p2 p3 p4 p5 S6 hrow5 PG hN hE hE1 hE2 hBX NX S5 HB4 h5;go_wp2_with (refine wpList_store_row rfl _ _ _ rfl B E rfl rfl 38 _ HR5.out (by rw[HE1.out];exact q5nr) (by rw[HD1.out,HE1.out]) HE2.out ?_)
    go_roundg (K1.drop z1).length
    case measure=>have:=HLT.out;rw[List.length_drop];omega
    case rel=>exact⟨_,_,_,_,_,P2,n2,q2,a2,_,rfl,rfl,rfl,NEW.out⟩
   ·have r0:((q1:Int)==0)=false:=by simp;omega
    by_cases q3:q1=3
    ·subst q3;have RR:=hid hT.done;have HTL:=hT.l3;by_cases hmore:G1=[]
     ·have g1:¬t<t1:=by rw[HTL,hmore];simp
      have FIN:ql6b w g v m o R k t G (.returned x1) wr:=by
       obtain⟨e1,e2⟩:=RR.out;refine⟨x1,kv1,qexp v m K1,G1,rfl,?_,by rw[e1],fun _=>by rw[e1]⟩
       have:=HT.out.st.back
       have e3:=HT.out.l3;rw[<-e2,e3] at this;rw[e1] at this ⊢;simpa using this
      have FIN:=hid FIN;clear hT HB2 HBL RR HTL hmore q0;go_wp2;go_ret;exact FIN.out
     ·have hl:=List.length_pos_iff.2 hmore;have g1:t<t1:=by omega
      have SE:=hid (qt7o hT.st.st hT.st.bf hT.st.kg hT.st.kl (by have:=hT.l1;have:=HB.out;omega));have FIN:∀kv' W',Stm W' g v m kv' (qexp v m K1) (nxV g (qexp v m K1)) k1 t1 0->Buf W' kv' K1->NewB wr kv1.ownBlock kv'.ownBlock->(∀b,kv'.ownBlock=some b->b<W'.heap.size)->StK wr W' g kv1.ownBlock->ql6b w g v m o R k t G (.returned x1) W':=fun kv' W' a1 a2 a3 a4 a5=>by
       obtain⟨e1,e2⟩:=RR.out;refine⟨x1,kv',qexp v m K1,G1,rfl,?_,by rw[e1],fun _=>by rw[e1]⟩
       have:=(HT.out.st.upd a5 a1 a2 a3 a4 (lt_of_block HT.out.bx)).back
       have e3:=HT.out.l3;rw[<-e2,e3] at this;rw[e1] at this ⊢;simpa using this
      have FIN:=hid FIN;clear hT HB2 HBL RR HTL hmore q0 hl;go_wp2_with fail;refine SE.out.mono ?_;rintro e4 W4 ⟨rfl,kv',a1,a2,a3,a4,a5⟩;have RT:=hid (FIN.out kv' W4 a1 a2 a3 a4 a5);clear a1 a2 a3 a4 a5;go_wp2;go_ret;exact RT.out
    ·have r3:((q1:Int) != 3)=true:=by simp;omega
     have FL:=hid (qn14 hT.st.st q1);have FIN:∀W',Stm W' g v m (.slice none 0 0) (qexp v m K1) (nxV g (qexp v m K1)) k1 t1 q1->wr.grownBy W' (some g)->ql6b w g v m o R k t G (.returned x1) W':=fun W' a1 a2=>by
      obtain⟨e1,e2,e3,e4⟩:=HT.out.fails q3 q0;refine⟨x1,.slice none 0 0,qexp v m K1,G1,rfl,?_,e1.symm,fun h=>absurd (e4.symm.trans h) q0⟩
      have:=(HT.out.st.upd (StK.of1 a2) a1 (Buf.empty _) (.inr (.inl rfl)) (fun b hb=>nomatch hb) (lt_of_block HT.out.bx)).back
      have e5:=HT.out.l3;rw[e1,e2,e3,e4,List.length_map,<-e5];exact this
     have FIN:=hid FIN;clear hT HB2 HBL q0 q3;go_wp2_with fail;refine FL.out.mono ?_;rintro e4 W4 ⟨rfl,a1,a2⟩;have RT:=hid (FIN.out W4 a1 a2);clear a1 a2;go_wp2;go_ret;exact RT.out
def fedS(v:Int)(m e:Nat)(K C:List UInt8):List Pk×List UInt8×Nat×Nat:=if e≠0 then([],K,0,e) else goW v m (K++C)
structure StrS(w:World)(g:Nat)(v:Int)(m:Nat)(kv:Value)(K:List UInt8)(z k t e:Nat):Prop where
 st:Stm w g v m kv z (nxV g z) k t e
 bf:Buf w kv K
 kg:kv.ownBlock≠some g
 kl:∀b,kv.ownBlock=some b->b<w.heap.size
 sz:e=0->z=qexp v m K/\(q7ku v m K).2.2=3
 er:e≠0->K=[]
def qmjm(w:World)(g:Nat)(v:Int)(m:Nat)(kv:Value)(k t:Nat)(R:List Pk×List UInt8×Nat×Nat)(E:Ending)(W:World):Prop:=
 ∃A c l kv' z,E=.returned (.tuple #[.slice A l.length c,.int .i64 (R.2.2.2:Nat)])/\l.map (·.1)=R.1/\l.length<=c/\PKL W A l/\(∀q∈l,FitM q.1)/\
  (∀q∈l,∀i,q10u q.1 q.2 i->w.heap.size<=i/\kv'.ownBlock≠some i)/\(∀i j,A=some ⟨i,j,none⟩->w.heap.size<=i/\kv'.ownBlock≠some i)/\
  StrS W g v m kv' R.2.1 z (k+R.2.2.1) (t+R.1.length) R.2.2.2/\StK w W g kv.ownBlock/\NewB w kv.ownBlock kv'.ownBlock
structure FeK(w:World)(g:Nat)(v:Int)(m:Nat)(o:Option Nat)(R:List Pk×List UInt8×Nat×Nat)(k t L:Nat)(kv:Value)(K:List UInt8)(z k1 t1 e1:Nat)(x:Value)(G:List Pa)(r:ByteArray)(W:World):Prop where
 tl:TlS w g v m o g kv K z k1 t1 e1 x G W
 sz:e1=0->z=qexp v m K/\(q7ku v m K).2.2=3
 ok:e1=0->R.1=G.map (·.1)++(goW v m (K++r.data.toList)).1/\R.2.1=(goW v m (K++r.data.toList)).2.1/\k+R.2.2.1=k1+(goW v m (K++r.data.toList)).2.2.1/\R.2.2.2=(goW v m (K++r.data.toList)).2.2.2
 bad:e1≠0->R.1=G.map (·.1)/\R.2.1=[]/\K=[]/\k+R.2.2.1=k1/\R.2.2.2=e1
 l1:G.length+K.length+r.size<=L
 l2:k1+K.length+r.size<=k+L
 l3:t1=t+G.length
section
variable{w W W':World}{g m k t L z k1 t1 e1:Nat}{v:Int}{o:Option Nat}{R:List Pk×List UInt8×Nat×Nat}{kv x:Value}{K:List UInt8}{G:List Pa}{r:ByteArray}
theorem qok2{kv0:Value}(h:FeK w g v m kv0.ownBlock R k t L kv K z k1 t1 e1 x G r W)(he:e1≠0\/r.size=0):qmjm w g v m kv0 k t R (.returned (.tuple #[x,.int .i64 (e1:Nat)])) W:=by
 obtain⟨e5,e6,e7,e8,e9,e10⟩:R.1=G.map (·.1)/\R.2.1=K/\k+R.2.2.1=k1/\R.2.2.2=e1/\(e1=0->z=qexp v m K/\(q7ku v m K).2.2=3)/\(e1≠0->K=[]):=by
  by_cases h0:e1=0
  ·have hr:r.data.toList=[]:=List.length_eq_zero_iff.1 (by rw[<-q4ad];exact he.resolve_left (fun c=>c h0));obtain⟨a1,a2,a3,a4⟩:=h.ok h0;have hs:=qc57 (h.sz h0).2;rw[hr,List.append_nil,hs] at a1 a2 a3 a4;simp only[List.append_nil,Nat.add_zero] at a1 a2 a3 a4;exact⟨a1,a2,a3,by rw[a4,h0],h.sz,fun c=>absurd h0 c⟩
  ·obtain⟨a1,a2,a3,a4,a5⟩:=h.bad h0;exact⟨a1,by rw[a2,a3],a4,a5,fun c=>absurd c h0,fun _=>a3⟩
 obtain⟨A,c,hx,hc,hcl,-⟩:=CL.owned h.tl.ow (q6wm G);refine⟨A,c,G,kv,z,by rw[hx,e8],e5.symm,hc,⟨hcl,fun q hq=>(h.tl.pk q hq).1⟩,fun q hq=>(h.tl.pk q hq).2.1,fun q hq i hi=>⟨((h.tl.pk q hq).2.2 i hi).1,((h.tl.pk q hq).2.2 i hi).2.2.1⟩,fun i j hA=>?_,?_,h.tl.kp,h.tl.nb⟩
 ·have ho:x.ownBlock=some i:=by rw[hx,hA];rfl
  exact⟨(h.tl.ow.lt i ho).1,h.tl.xk i ho⟩
 ·rw[e6,e7,e8,e5,List.length_map,<-h.l3];exact⟨h.tl.st,h.tl.bf,h.tl.kg,h.tl.kl,e9,e10⟩
theorem FeK.step{o:Option Nat}{x':Value}{c1:List UInt8}{r2:ByteArray}{E:Ending}(h:FeK w g v m o R k t L kv K z k1 t1 0 x G r W)(hr:r.data.toList=c1++r2.data.toList)(hT:ql6b w g v m o (goW v m (K++c1)) k1 t1 G E W')(hE:E=.returned x') :
 ∃kv' K' z' k2 t2 e2 G',FeK w g v m o R k t L kv' K' z' k2 t2 e2 x' G' r2 W':=by
 obtain⟨x2,kv',z',G',hE2,hs,hm,hz⟩:=hT;rw[hE] at hE2;cases hE2;obtain⟨a1,a2,a3,a4⟩:=h.ok rfl;have hl:=qqsp (v:=v) (m:=m) _ (K++c1) (Nat.le_refl _);have hrest:=q2fk (v:=v) (m:=m) _ (K++c1) (Nat.le_refl _);have happ:=qszy (v:=v) (m:=m) r2.data.toList _ (K++c1) (Nat.le_refl _);rw[List.append_assoc,<-hr] at happ;obtain⟨⟨L1,K1,n1,q1⟩,hA⟩:∃A,goW v m (K++c1)=A:=⟨_,rfl⟩
 rw[hA] at hs hm hz hl hrest happ;simp only at hs hm hz hl hrest happ;have hlen:(G++G').length=G.length+L1.length:=by rw[List.length_append,<-hm,List.length_map]
 have hc:=congrArg List.length hr;rw[List.length_append,<-q4ad,<-q4ad] at hc;rw[List.length_append] at hl;have h1:=h.l1;have h2:=h.l2;have h3:=h.l3;refine⟨kv',K1,z',_,_,q1,G++G',hs,fun h0=>⟨hz h0,hrest h0⟩,fun h0=>?_,fun h0=>?_,?_,?_,?_⟩
 ·rw[happ,if_neg (by simpa using h0)] at a1 a2 a3 a4;simp only at a1 a2 a3 a4;exact⟨by rw[a1,List.map_append,hm,List.append_assoc],a2,by omega,a4⟩
 ·rw[happ,if_pos h0] at a1 a2 a3 a4;simp only at a1 a2 a3 a4;have hK1:K1=[]:=qkiq hA h0;exact⟨by rw[a1,List.map_append,hm],by rw[a2,hK1],hK1,a3,a4⟩
 ·rw[hlen];omega
 ·omega
 ·rw[hlen,h3];omega
theorem FeK.draws{o:Option Nat}(h:FeK w g v m o R k t L kv K z k1 t1 e1 x G r W)(n:Nat):FeK w g v m o R k t L kv K z k1 t1 e1 x G r (W.drewN n):=
 ⟨h.tl.call (qnpu (Below.refl _ _) n),h.sz,h.ok,h.bad,h.l1,h.l2,h.l3⟩
end
theorem qlbo{r:ByteArray}(h:r.size=0):r=⟨#[]⟩:=by
 obtain⟨d⟩:=r
 have:d=#[]:=Array.eq_empty_of_size_eq_zero h
 rw[this]
theorem TlS.append{w W:World}{g m z k t e:Nat}{v:Int}{o:Option Nat}{kv x:Value}{K L:List UInt8}{G:List Pa}(h:TlS w g v m o g kv K z k t e x G W){s:ByteArray}(hs:s.data.toList=L)(hL:L≠[])(hm:K.length+L.length<=70368744177664) :
 ∃A c W',(Builtin.append_ #[58,9] 58 #[kv,.string s]).run prog W.drew=.ok (.slice A (K++L).length c) W'/\W'.cell? ⟨g,3,none⟩=some kv/\W'.frozen? ⟨g,3,none⟩=false/\
  TlS w g v m o g (.slice A (K++L).length c) (K++L) z k t e x G (W'.setCell ⟨g,3,none⟩ (.slice A (K++L).length c)):=by
 subst hs;have hd:TlS w g v m o g kv K z k t e x G W.drew:=h.call (Below.refl _ _).drew;obtain⟨kv',W',hrun,hb',hg',hnb⟩:=Buf.append hd.bf (fun W _=>qh9z (s:=s) W) hL hm;obtain⟨A,c,rfl,-⟩:=id hb';have hc':Stm W' g v m kv z (nxV g z) k t e:=hd.st.of_block (hg'.block g hd.st.lt (fun e=>hd.kg e.symm));have gk:=q99v W' g 3 (.slice A (K++s.data.toList).length c);have hn2:NewB W.drew kv.ownBlock (Value.slice A (K++s.data.toList).length c).ownBlock:=hnb.elim .inl fun h => .inr (.inr ⟨_,h.1,Nat.le_refl _⟩);refine⟨A,c,W',hrun,hc'.c3,hc'.fr 3,hd.upd ((StK.of2 hg').trans (StK.of1 gk) (.inl rfl)) (hc'.set3 _) (hb'.moved fun b hb2 hl=>gk.block b hl (fun e=>?_)) hn2 (fun b hb2=>?_) hd.st.lt⟩
 ·exact hn2.ne hd.st.lt hd.kg (by rw[hb2,e])
 ·refine Nat.lt_of_lt_of_le ?_ gk.size;rcases hnb with e|⟨e,e2⟩
  ·exact Nat.lt_of_lt_of_le (hd.kl b (by rw[<-e,hb2])) hg'.size
  ·have:=Option.some.inj (e.symm.trans hb2)
   rw[e2,<-this];exact Nat.lt_succ_self _
theorem q9wl{w:World}{g m z k t e:Nat}{v:Int}{kv:Value}{K:List UInt8}(h:StrS w g v m kv K z k t e)(s:ByteArray)(hm:m<=1048576)(hm16:16<=m)(hs:s.size<=100000000000)(hk:k<=100000000000)(ht:t<=100000000000)(few:∀l:List UInt8,l.length<=K.length+s.size->FewM v l) :
 Calls prog 13 #[.pointer (some ⟨g,0,none⟩),.string s] w (qmjm w g v m kv k t (fedS v m e K s.data.toList)):=by
 obtain⟨R,hR⟩:∃R,fedS v m e K s.data.toList=R:=⟨_,rfl⟩
 rw[hR];have hKm:e=0->K.length<m:=fun he=>by
  have:=qwuz (v:=v) hm16 _ K (Nat.le_refl _)
  rwa [qc57 (h.sz he).2] at this
 have hKl:K.length<=1048576:=by
  by_cases he:e=0
  ·have:=hKm he;omega
  ·rw[h.er he];simp
 have S0:FeK w g v m kv.ownBlock R k t (K.length+s.size) kv K z k t e (.slice none 0 0) [] s w:=by
  refine⟨⟨h.st.lt,StK.refl _ _ _,.inl rfl,h.st,h.bf,h.kg,h.kg,h.kl,World.ownsRow_nil _ _ _ _,(fun e=>nomatch e),(fun i hi=>nomatch hi),(fun q hq=>nomatch hq)⟩,h.sz,fun he=>?_,fun he=>?_,by simp,by omega,by simp⟩
  ·rw[<-hR];unfold fedS;rw[if_neg (by simpa using he)];exact⟨by simp,rfl,rfl,rfl⟩
  ·rw[<-hR];unfold fedS;rw[if_pos he];exact⟨rfl,by simpa using h.er he,h.er he,rfl,rfl⟩
 have V:=hid (qta7 h.st);have S0:=hid S0;have HB:=hid (And.intro hm (And.intro hm16 (And.intro hs (And.intro hk (And.intro ht hKl)))));have FEW:=hid few;clear hR hKm hKl h hm hm16 hs hk ht few
 go_in
 go_wp2_with fail;refine V.out.mono ?_;rintro e' w' ⟨rfl,rfl⟩;go_wp2_with fail
 go_loopg [1,6] s.size (fun gk s1 s6 wr=>∃kv1 K1 z1 k1 t1 e1 G r x,gk=r.size/\s1=.string r/\x=s6/\FeK w g v m kv.ownBlock R k t (K.length+s.size) kv1 K1 z1 k1 t1 e1 x G r wr)
 case atStart=>exact⟨kv,K,z,k,t,e,[],s,_,rfl,rfl,rfl,S0.out⟩
 case round=>
  obtain⟨kv1,K1,z1,k1,t1,e1,G,r,x,rfl,rfl,rfl,hS⟩:=hrel;clear S0;have h8:=hS.tl.st.c8;have h2:=hS.tl.st.c2;have h3:=hS.tl.st.c3;have HS:=hid hS;by_cases hr0:r.size=0
  ·have FIN:=hid (fun n=>qok2 (W:=wr.drewN n) (r:=r) (FeK.draws hS n) (.inr hr0));have hre:r=⟨#[]⟩:=qlbo hr0;subst hre;clear hS h2 h3 hr0;go_wp2_with fail;go_quiet (fail);go_wp2
   go_ret2
   exact FIN.out _
  have b1:(r.toList==([]:List UInt8))=false:=by rw[beq_eq_false_iff_ne,qrze];intro e;rw[q4ad,e] at hr0;exact hr0 rfl
  by_cases he:e1=0
  ·subst he;have hKm:K1.length<m:=by
    have:=qwuz (v:=v) HB.out.2.1 _ K1 (Nat.le_refl _)
    rwa [qc57 (hS.sz rfl).2] at this
   obtain⟨j,hj⟩:∃j,min r.size (m-K1.length)=j:=⟨_,rfl⟩
   have hmin:min (r.size:Int) ((m:Int)-(K1.length:Int))=(j:Int):=by omega
   have hjr:(j:Int)<=(r.size:Int):=by omega
   have hmb:(m:Int)<=1048576:=by have:=HB.out.1;omega
   have hrb:(r.size:Int)<=100001048576:=by have:=hS.l1;have:=HB.out;omega
   have hkl:(K1.length:Int)<=1048576:=by omega
   obtain⟨A,c,hkv,hlc,-⟩:=id hS.tl.bf;rw[hkv] at h3;have HJ:=hid (show 1<=j/\j<=r.size/\K1.length+j<=m by omega);have HKV:=hid hkv;clear hS hr0 hKm hj hkv hlc;go_wp2_with fail
   go_region
   have SD:=HS.out.draws 1;have SD:FeK w g v m kv.ownBlock R k t (K.length+s.size) kv1 K1 z1 k1 t1 0 x G r wr.drew:=SD;clear h2 h3 h8 hmin hmb hkl;generalize wr.drew=W5 at *;obtain⟨c1,hc1⟩:∃c1,r.data.toList.take j=c1:=⟨_,rfl⟩
   have hp1:(r.extract 0 j).data.toList=c1:=by
    have:=q31q r 0 j
    rw[Nat.zero_add,List.drop_zero] at this;rw[this,qkd1,hc1]
   have hp2:r.data.toList=c1++(r.extract j r.size).data.toList:=by
    have:=q31q r j (r.size-j)
    rw[show j+(r.size-j)=r.size by have:=HJ.out;omega] at this;rw[this,qkd1,List.take_of_length_le (by rw[List.length_drop,<-q4ad];omega),<-hc1,List.take_append_drop]
   have hcl:c1.length=j:=by rw[<-hc1,List.length_take,<-q4ad];have:=HJ.out;omega
   obtain⟨A',c',W6,hrun,k3,j3,SA⟩:=SD.tl.append hp1 (fun e=>by rw[e] at hcl;have:=HJ.out;simp at hcl;omega) (by have:=HJ.out;have:=HB.out;omega);have hz:z1=0\/z1=qexp v m (K1++c1):=by
    rw[(SD.sz rfl).1];by_cases h0:qexp v m K1=0
    ·exact .inl h0
    ·exact .inr (qjow c1 h0).symm
   have hKc:(K1++c1).length<=1048576:=by rw[List.length_append,hcl];have:=HJ.out;have:=HB.out;omega
   have TE:=qydk SA hz hKc HB.out.1 (by have:=SD.l1;have:=HB.out;omega) (by have:=SD.l2;have:=HB.out;omega) (by have:=SD.l1;have:=SD.l3;have:=HB.out;omega) (fun l hl=>FEW.out l (by rw[List.length_append,hcl] at hl;have:=SD.l1;have:=HJ.out;omega));have HSD:=hid SD;have HP2:=hid hp2;have TE:=hid TE;rw[HKV.out] at hrun k3;have h3:=SD.tl.st.c3;rw[HKV.out] at h3;have hls:(r.extract j r.size).size=r.size-j:=by rw[ByteArray.size_extract];have:=HJ.out;omega
   obtain⟨p1,hp1'⟩:∃p1,r.extract 0 j=p1:=⟨_,rfl⟩
   obtain⟨p2,hp2'⟩:∃p2,r.extract j r.size=p2:=⟨_,rfl⟩
   rw[hp1'] at hrun;rw[hp2'] at HP2 hls;have HLS:=hid hls;have hj0:(0:Int)<=(j:Int):=by omega
   clear SD hp1 hp2 hcl SA hz hKc hc1 hrb;go_wp2_with fail
   go_region_law (refine q6zi (by rfl) _ _ _ _ (by rfl) (by rfl) (by rfl) hrun ?_)
   all_goals
    clear hrun k3 j3 h3;rw[<-List.length_append];generalize W6.setCell ⟨g,3,none⟩ (.slice A' (K1++c1).length c')=W7 at *;go_wp2_with fail;refine TE.out.mono ?_;rintro e4 W8 hte;have hte2:=hte;obtain⟨x',-,-,-,rfl,-⟩:=hte2;have NEW:=hid (HSD.out.step HP2.out hte rfl);clear hte;go_wp2_with fail
    go_roundg p2.size
    case measure=>rw[HLS.out];have:=HJ.out;omega
    case rel=>obtain⟨kv',K',z',k2,t2,e2,G',hn⟩:=NEW.out;exact⟨kv',K',z',k2,t2,e2,G',p2,_,rfl,rfl,rfl,hn⟩
  ·have FIN:=hid (fun n=>qok2 (W:=wr.drewN n) (r:=r) (FeK.draws hS n) (.inl he));have g1:((e1:Int)==0)=false:=by simp;omega
   clear hS h2 h3 hr0 he;go_wp2_with fail;go_quiet (fail);go_wp2
   go_ret2
   exact FIN.out _
end Go.Proofs.YtefmhbioggcfaaaGreatDoor
