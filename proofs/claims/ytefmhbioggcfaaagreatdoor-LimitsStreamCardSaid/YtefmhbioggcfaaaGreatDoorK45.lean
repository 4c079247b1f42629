/- The contract of mstream.Stream.body. Condition: the packet has at most 2^20 bytes. -/
import Derived.Test.YtefmhbioggcfaaaGreatDoorK42
import Derived.Test.YtefmhbioggcfaaaGreatDoorK44
set_option maxRecDepth 100000
set_option maxHeartbeats 4000000
namespace Go.Proofs.YtefmhbioggcfaaaGreatDoor
open Lib(hid)
open Proofs.Tryz
open Go.RowKit
def q3fk(w:World)(R:Pk×Nat)(e:Ending)(W:World):Prop:=
 ∃a:Ad,e=.returned (.tuple #[.agg (pkC R.1 a),.int .i64 (R.2:Nat)])/\PkAt W R.1 a/\FitM R.1/\Below w.heap.size w W/\FrA w R.1 a
theorem q3fk.zero{w W:World}(n:Nat)(h:Below w.heap.size w W):q3fk w (Pk.zero,n) (.returned (.tuple #[.agg pkZ,.int .i64 n])) W:=
 ⟨adZ,rfl,qa3p _,qkys,h,q16x w⟩
structure BoR(w W0:World)(P:Pk)(x:Option Ad×Option Nat×Bool)(W:World):Prop where
 low:Below W0.heap.size W0 W
 old:w.heap.size<=W0.heap.size
 box:∀b,x.2.1=some b->W0.heap.size<=b/\∃D,W.heap[b]?=some (.cells D 38 (0,0))/\(x.2.2=false->D=pkZ)/\(x.2.2=true->∃a,x.1=some a/\D=pkC P a)
 pk:∀a,x.1=some a->PkAt W P a/\FitM P/\FrA W0 P a
 ne:∀a b,x.1=some a->x.2.1=some b->∀g,q10u P a g->g≠b
section
variable{w W0 W W':World}{P:Pk}{x:Option Ad×Option Nat×Bool}
theorem BoR.start(h:w.heap.size<=W0.heap.size):BoR w W0 P (none,none,false) W0.drew:=
 ⟨(Below.refl _ _).drew,h,fun b e=>(by cases e),fun a e=>(by cases e),fun a b e=>(by cases e)⟩
theorem BoR.got(s:BoR w W0 P x W)(hn:x.1=none)(hs:x.2.2=false){a:Ad}(hb:Below W.heap.size W W')(hp:PkAt W' P a)(hf:FitM P)(fr:FrA W P a):BoR w W0 P (some a,x.2) W':=by
 obtain⟨xa,xb,xs⟩:=x;cases hn;cases hs;refine⟨s.low.trans (hb.mono s.low.size),s.old,fun b e=>?_,fun c e=>?_,fun c b e1 e2 g hg=>?_⟩
 ·obtain⟨h1,D,h2,h3,-⟩:=s.box b e;exact⟨h1,D,(hb.block _ (lt_of_block h2)).trans h2,h3,fun e=>(by cases e)⟩
 ·cases e;exact⟨hp,hf,fr.mono s.low.size⟩
 ·cases e1
  have:=fr.lists hg
  obtain⟨-,D,h2,-⟩:=s.box b e2
  have:=lt_of_block h2
  omega
theorem BoR.boxed(s:BoR w W0 P x W)(hn:x.2.1=none)(hs:x.2.2=false):BoR w W0 P (x.1,some W.heap.size,x.2.2) (W.alloc (.cells pkZ 38)):=by
 obtain⟨xa,xb,xs⟩:=x;cases hn;cases hs;have hb:=qybm (w:=W) (.cells pkZ 38);refine⟨s.low.trans (hb.mono s.low.size),s.old,fun b e=>?_,fun c e=>?_,fun c b e1 e2 g hg=>?_⟩
 ·cases e;exact⟨s.low.size,_,heap_alloc_new _ _,fun _=>rfl,fun e=>(by cases e)⟩
 ·obtain⟨h1,h2,h3⟩:=s.pk c e;exact⟨h1.below hb,h2,h3⟩
 ·cases e2
  have:=(s.pk c e1).1.lists_lt hg
  omega
theorem BoR.stored{a:Ad}{b:Nat}(s:BoR w W0 P (some a,some b,false) W):W.heap[b]?=some (.cells pkZ 38 (0,0))/\BoR w W0 P (some a,some b,true) (W.setRow b (pkC P a)):=by
 obtain⟨h1,D,h2,h3,-⟩:=s.box b rfl;cases h3 rfl;obtain⟨p1,p2,p3⟩:=s.pk a rfl;refine⟨h2,q8xz s.low h1 _,s.old,fun c e=>?_,fun c e=>?_,s.ne⟩
 ·cases e;exact⟨h1,_,setRow_heap _ _ _ _ _ _ h2,fun e=>(by cases e),fun _=>⟨a,rfl,rfl⟩⟩
 ·cases e;exact⟨p1.moved (by simp[World.setRow]) fun g hg=>setRow_other W b g _ (s.ne a b rfl rfl g hg),p2,p3⟩
end
section
variable{w w':World}{g m z k t e:Nat}{v:Int}{nx kv:Value}{K:List UInt8}
theorem q8uk(hc:Stm w g v m kv z nx k t e)(hb:Buf w kv K)(_:K.length<=1048576)(hz:z<=1048576)(few:∀l:List UInt8,l.length<=K.length->FewM v l) :
 Calls prog 31 #[.pointer (some ⟨g,0,none⟩)] w (q3fk w (if K.length<z then(Pk.zero,3) else((qyib v (K.take z)).1,(qyib v (K.take z)).2.2))):=by
 have HZ:=hid qbwp;have hzv:=qrai;have hne:¬pkZ=#[]:=by intro h;have:=qbwp;rw[h] at this;cases this
 have PZ:Hid (pkZ.all (·.oneCell')=true):=hid (qmz0 Pk.zero adZ);have R0:=heap_alloc_new w (.cells pkZ 38);have L0:=qybm (w:=w) (.cells pkZ 38);obtain⟨A,c,rfl,hlc,hbuf⟩:=id hb;obtain⟨W,hW⟩:∃W,w.alloc (.cells pkZ 38)=W:=⟨_,rfl⟩
 have hcW:Stm W g v m (.slice A K.length c) z nx k t e:=by rw[<-hW];exact hc.below L0
 have hbW:Buf W (.slice A K.length c) K:=by rw[<-hW];exact hb.below L0
 rw[hW] at R0 L0;have h1:=hcW.c1;have h3:=hcW.c3;have h4:=hcW.c4;by_cases hlt:K.length<z
 ·rw[if_pos hlt];have hlt':decide ((K.length:Int)<(z:Int))=true:=decide_eq_true (by omega);have HL:=hid L0;have HR:=hid R0;clear hc hb few hbuf hcW hbW hz h1 R0 L0 hlc
  go_in
  go_wp2_with fail;go_quiet (fail);have HR2:Hid ((W.drewN nq).heap[w.heap.size]?=some (.cells pkZ 38 (0,0))):=HR;have HL2:=hid (qnpu HL.out nq);clear HR HL;generalize W.drewN nq=W2 at *;go_wp2_with (first
   |(refine wpList_buildTo rfl 38 _ rfl (some _) rfl pkZ (by kernel_rfl) ?_)
   |(refine wpList_store_row rfl _ _ _ rfl w.heap.size pkZ rfl rfl 38 _ HR2.out (by rw[HZ.out];exact q5nr) rfl PZ.out ?_))
  exact q8iy (cs:=pkZ) rfl rfl rfl rfl underlying38 rfl (by rw[HZ.out];exact q5nr) (setRow_heap _ _ _ _ _ _ HR2.out) (q3fk.zero 3 (q8xz HL2.out (Nat.le_refl _) _))
 ·rw[if_neg hlt];have hlt':decide ((K.length:Int)<(z:Int))=false:=decide_eq_false (by omega);have hzn:(z:Int)<=(c:Int):=by omega
  have hfr:=fun W' (h:Below W.heap.size W W')=>(hbW.below h).front (n:=z) (by omega) rfl;have hsl:sliced A 0 z c 1=.slice A z c:=by
   unfold sliced;rcases hbuf with h|⟨b,o,rfl,-,-⟩
   ·rw[if_pos h,Nat.sub_zero,Nat.sub_zero]
   ·simp[Addr.add_lit]
  obtain⟨T,hT⟩:∃T,K.take z=T:=⟨_,rfl⟩
  rw[hT] at hfr ⊢;have hTl:T.length<=1048576:=by rw[<-hT,List.length_take];omega
  have RD:=fun W=>quap v (bs T) W (by rw[q5zk];omega) (by rw[qkd1];exact few T (by rw[<-hT,List.length_take];omega));rw[qkd1] at RD;obtain⟨⟨P,i,q⟩,hR⟩:∃R,qyib v T=R:=⟨_,rfl⟩
  rw[hR] at RD ⊢;simp only;have HL:=hid L0;have HR:=hid R0;have HCW:=hid hcW;unfold q32s at RD;replace RD:=hid RD;clear hc hb few hbuf hcW hbW hz R0 L0 hlc hTl hT hR hlt'
  go_in
  go_wp2_with fail;go_quiet (fail)
  go_upto_region 3 with fail
  have HL2:=qnpu HL.out nq;have HR2:(W.drewN nq).heap[w.heap.size]?=some (.cells pkZ 38 (0,0)):=HR.out;have HC2:Stm (W.drewN nq) g v m (.slice A K.length c) z nx k t e:=HCW.out;have HB2:Below W.heap.size W (W.drewN nq):=qnpu (Below.refl _ _) nq;generalize W.drewN nq=W2 at *;refine qqpj (S:=BoR w W2 P) (v:=v) (n:=K.length) (u:=bs T) (i:=(i:Nat)) (q:=(q:Nat)) (P:=P) (BoR.start HL2.size) (by omega) hsl (fun x W' h=>(HC2.of_block (h.low.block g HC2.lt)).c1) (fun x W' h=>(HC2.of_block (h.low.block g HC2.lt)).c3) (fun x W' h=>(HC2.of_block (h.low.block g HC2.lt)).c4)
   (fun x W' h=>by rw[<-hsl];exact hfr W' (HB2.trans (h.low.mono HB2.size))) (fun x W' h h1 h2=>(RD.out W').mono fun e W3 ⟨a,he,hp,_,hf,hb,_,fr⟩=>⟨a,he,h.got h1 h2 hb hp hf fr⟩) (fun x W' h h1 h2=>h.boxed h1 h2) (fun a b W' h=>h.stored) ?_
  intro a b W3 hS;obtain⟨-,D,hrow,-,h3⟩:=hS.box b rfl;obtain⟨a',e,rfl⟩:=h3 rfl;cases e;obtain⟨p1,p2,p3⟩:=hS.pk a rfl;have LO:=HL2.trans (hS.low.mono HL2.size);have R1:W3.heap[w.heap.size]?=some (.cells pkZ 38 (0,0)):=(hS.low.block _ (lt_of_block HR2)).trans HR2;have HE:=hid (show q3fk w (P,q) (.returned (.tuple #[.agg (pkC P a),.int .i64 (q:Nat)])) (W3.setRow w.heap.size (pkC P a)) from
   ⟨a,rfl,(p3.row (lt_of_block HR2) p1 _),p2,q8xz LO (Nat.le_refl _) _,p3.mono HL2.size⟩)
  have hD1:=qwmp P a;have hD2:=qmz0 P a;dsimp only;generalize pkC P a=D at *;have HD1:=hid hD1;have HD2:=hid hD2;have HR3:=hid hrow;have HR1:=hid R1;clear hD1 hD2 hrow R1 p1 p2 p3 LO hS HL2 HR2 HC2 HB2 RD HCW HR HL hfr hsl h1 h3 h4 hW hlt hzn hzv;go_wp2_with (first
   |(refine wpList_load_row rfl _ _ rfl b rfl 38 D (0,0) _ HR3.out underlying38 rfl (by rw[HD1.out];exact q5nr) ?_)
   |(refine wpList_store_row rfl _ _ _ rfl w.heap.size D rfl rfl 38 _ HR1.out (by rw[HD1.out];exact q5nr) (by rw[HZ.out,HD1.out]) HD2.out ?_))
  exact q8iy (cs:=D) rfl rfl rfl rfl underlying38 rfl (by rw[HD1.out];exact q5nr) (setRow_heap _ _ _ _ _ _ HR1.out) HE.out
end
end Go.Proofs.YtefmhbioggcfaaaGreatDoor
