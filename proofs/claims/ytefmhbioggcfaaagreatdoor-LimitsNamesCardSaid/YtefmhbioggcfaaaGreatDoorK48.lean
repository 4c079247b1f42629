/- The contracts of mstream.Stream's pass and settle. No condition but bounds on the numbers. -/
import Derived.Test.YtefmhbioggcfaaaGreatDoorK47
import Derived.Test.YtefmhbioggcfaaaGreatDoorK46
namespace Go.Proofs.YtefmhbioggcfaaaGreatDoor
open Go.RowKit
section
variable{w w':World}{g m z k t e:Nat}{v:Int}{nx:Value}{K:List UInt8}
structure StK(w W:World)(g:Nat)(o:Option Nat):Prop where
 os:W.os=w.os
 tape:W.tape=w.tape
 output:W.output=w.output
 size:w.heap.size<=W.heap.size
 block:∀i,i<w.heap.size->i≠g->o≠some i->W.heap[i]?=w.heap[i]?
theorem StK.refl(w:World)(g:Nat)(o:Option Nat):StK w w g o:=⟨rfl,rfl,rfl,Nat.le_refl _,fun _ _ _ _=>rfl⟩
theorem StK.of1{o:Option Nat}(h:w.grownBy w' (some g)):StK w w' g o:=⟨h.os,h.tape,h.output,h.size,fun i hi hg _=>h.block i hi (fun e=>hg (Option.some.inj e))⟩
theorem StK.of2{o:Option Nat}(h:w.grownBy w' o):StK w w' g o:=⟨h.os,h.tape,h.output,h.size,fun i hi _ ho=>h.block i hi (fun e=>ho e.symm)⟩
theorem StK.draws{o:Option Nat}{W:World}(h:StK w W g o)(n:Nat):StK w (W.drewN n) g o:=⟨h.os,h.tape,h.output,h.size,h.block⟩
def NewB(w:World)(o o':Option Nat):Prop:=o'=o\/o'=none\/∃i,o'=some i/\w.heap.size<=i
theorem StK.trans{a b c:World}{o o':Option Nat}(h:StK a b g o)(k:StK b c g o')(n:NewB a o o'):StK a c g o:=
 ⟨k.os.trans h.os,k.tape.trans h.tape,k.output.trans h.output,Nat.le_trans h.size k.size,fun i hi hg ho=>(k.block i (Nat.lt_of_lt_of_le hi h.size) hg (by
  rcases n with rfl|rfl|⟨j,rfl,hj⟩
  ·exact ho
  ·simp
  ·intro e;have:=Option.some.inj e;omega)).trans (h.block i hi hg ho)⟩
theorem NewB.trans{a b:World}{o o' o2:Option Nat}(h:NewB a o o')(k:NewB b o' o2)(hs:a.heap.size<=b.heap.size):NewB a o o2:=by
 rcases k with rfl|rfl|⟨j,rfl,hj⟩
 ·exact h
 ·exact .inr (.inl rfl)
 ·exact .inr (.inr ⟨j,rfl,Nat.le_trans hs hj⟩)
theorem NewB.ne{o o':Option Nat}(h:NewB w o o')(hg:g<w.heap.size)(ho:o≠some g):o'≠some g:=by
 rcases h with rfl|rfl|⟨j,rfl,hj⟩
 ·exact ho
 ·simp
 ·intro e;have:=Option.some.inj e;omega
end
section
variable{a:Act}{w:World}{d:Option Tmp}{p:String}{af:Array Edge}{gd:Option (Nat×Bool)}{x y z:Tmp}{r:TypeId}
end
def q3fk(w:World)(R:Pk×Nat)(e:Ending)(W:World):Prop:=
 ∃a:Ad,e=.returned (.tuple #[.agg (pkC R.1 a),.int .i64 (R.2:Nat)])/\PkAt W R.1 a/\FitM R.1/\Below w.heap.size w W/\FrA w R.1 a
theorem q3fk.zero{w W:World}(n:Nat)(h:Below w.heap.size w W):q3fk w (Pk.zero,n) (.returned (.tuple #[.agg pkZ,.int .i64 n])) W:=
 ⟨adZ,rfl,qa3p _,qkys,h,q16x w⟩
structure BoR(w W0:World)(P:Pk)(x:Option Ad×Option Nat×Bool)(W:World):Prop where
 low:Below W0.heap.size W0 W
 old:w.heap.size<=W0.heap.size
 box:∀b,x.2.1=some b->W0.heap.size<=b/\∃D,W.heap[b]?=some (.cells D 38 (0,0))/\(x.2.2=false->D=pkZ)/\(x.2.2=true->∃a,x.1=some a/\D=pkC P a)
 pk:∀a,x.1=some a->PkAt W P a/\FitM P/\FrA W0 P a
 ne:∀a b,x.1=some a->x.2.1=some b->∀g,q10u P a g->g≠b
section
variable{w W0 W W':World}{P:Pk}{x:Option Ad×Option Nat×Bool}
theorem BoR.start(h:w.heap.size<=W0.heap.size):BoR w W0 P (none,none,false) W0.drew:=
 ⟨(Below.refl _ _).drew,h,fun b e=>(by cases e),fun a e=>(by cases e),fun a b e=>(by cases e)⟩
theorem BoR.got(s:BoR w W0 P x W)(hn:x.1=none)(hs:x.2.2=false){a:Ad}(hb:Below W.heap.size W W')(hp:PkAt W' P a)(hf:FitM P)(fr:FrA W P a):BoR w W0 P (some a,x.2) W':=by
 obtain⟨xa,xb,xs⟩:=x;cases hn;cases hs;refine⟨s.low.trans (hb.mono s.low.size),s.old,fun b e=>?_,fun c e=>?_,fun c b e1 e2 g hg=>?_⟩
 ·obtain⟨h1,D,h2,h3,-⟩:=s.box b e;exact⟨h1,D,(hb.block _ (lt_of_block h2)).trans h2,h3,fun e=>(by cases e)⟩
 ·cases e;exact⟨hp,hf,fr.mono s.low.size⟩
 ·cases e1
  have:=fr.lists hg
  obtain⟨-,D,h2,-⟩:=s.box b e2
  have:=lt_of_block h2
  omega
theorem BoR.boxed(s:BoR w W0 P x W)(hn:x.2.1=none)(hs:x.2.2=false):BoR w W0 P (x.1,some W.heap.size,x.2.2) (W.alloc (.cells pkZ 38)):=by
 obtain⟨xa,xb,xs⟩:=x;cases hn;cases hs;have hb:=qybm (w:=W) (.cells pkZ 38);refine⟨s.low.trans (hb.mono s.low.size),s.old,fun b e=>?_,fun c e=>?_,fun c b e1 e2 g hg=>?_⟩
 ·cases e;exact⟨s.low.size,_,heap_alloc_new _ _,fun _=>rfl,fun e=>(by cases e)⟩
 ·obtain⟨h1,h2,h3⟩:=s.pk c e;exact⟨h1.below hb,h2,h3⟩
 ·cases e2
  have:=(s.pk c e1).1.lists_lt hg
  omega
theorem BoR.stored{a:Ad}{b:Nat}(s:BoR w W0 P (some a,some b,false) W):W.heap[b]?=some (.cells pkZ 38 (0,0))/\BoR w W0 P (some a,some b,true) (W.setRow b (pkC P a)):=by
 obtain⟨h1,D,h2,h3,-⟩:=s.box b rfl;cases h3 rfl;obtain⟨p1,p2,p3⟩:=s.pk a rfl;refine⟨h2,q8xz s.low h1 _,s.old,fun c e=>?_,fun c e=>?_,s.ne⟩
 ·cases e;exact⟨h1,_,setRow_heap _ _ _ _ _ _ h2,fun e=>(by cases e),fun _=>⟨a,rfl,rfl⟩⟩
 ·cases e;exact⟨p1.moved (by simp[World.setRow]) fun g hg=>setRow_other W b g _ (s.ne a b rfl rfl g hg),p2,p3⟩
end
section
variable{w w':World}{g m z k t e:Nat}{v:Int}{nx kv:Value}{K:List UInt8}
end
section
variable{a:Act}{w:World}{d:Option Tmp}{p:String}{af:Array Edge}{gd:Option (Nat×Bool)}{x y z:Tmp}{r:TypeId}
end
structure HeR(W0:World)(h:Hd)(x:Option Unit×Option Nat×Bool)(W:World):Prop where
 low:Below W0.heap.size W0 W
 box:∀b,x.2.1=some b->W0.heap.size<=b/\∃D,W.heap[b]?=some (.cells D 65 (0,0))/\(x.2.2=false->D=#[.int .i64 0,.int .i64 0,.int .i64 0])/\(x.2.2=true->D=#[.int .i64 h.kind,.int .i64 h.flags,.int .i64 h.length])
section
variable{W0 W W':World}{h:Hd}{x:Option Unit×Option Nat×Bool}
theorem HeR.start(W0:World)(h:Hd):HeR W0 h (none,none,false) W0.drew:=⟨(Below.refl _ _).drew,fun b e=>(by cases e)⟩
theorem HeR.got(s:HeR W0 h x W)(a:Unit)(hb:Below W.heap.size W W'):HeR W0 h (some a,x.2) W':=by refine⟨s.low.trans (hb.mono s.low.size),fun b e=>?_⟩;obtain⟨h1,D,h2,h3⟩:=s.box b e;exact⟨h1,D,(hb.block _ (lt_of_block h2)).trans h2,h3⟩
theorem HeR.boxed(s:HeR W0 h x W)(hs:x.2.2=false):HeR W0 h (x.1,some W.heap.size,x.2.2) (W.alloc (.cells #[.int .i64 0,.int .i64 0,.int .i64 0] 65)):=by refine⟨s.low.trans ((qybm (w:=W) _).mono s.low.size),fun b e=>?_⟩;cases e;exact⟨s.low.size,_,heap_alloc_new _ _,fun _=>rfl,fun e=>by simp only at e;rw[hs] at e;cases e⟩
theorem HeR.stored{a:Unit}{b:Nat}(s:HeR W0 h (some a,some b,false) W):W.heap[b]?=some (.cells #[.int .i64 0,.int .i64 0,.int .i64 0] 65 (0,0))/\HeR W0 h (some a,some b,true) (W.setRow b #[.int .i64 h.kind,.int .i64 h.flags,.int .i64 h.length]):=by obtain⟨h1,D,h2,h3,-⟩:=s.box b rfl;cases h3 rfl;refine⟨h2,q8xz s.low h1 _,fun c e=>?_⟩;cases e;exact⟨h1,_,setRow_heap _ _ _ _ _ _ h2,fun e=>(by cases e),fun _=>rfl⟩
end
section
variable{w w':World}{g m k t e:Nat}{v:Int}{nx kv:Value}{K:List UInt8}
end
def PkW(w:World)(f:Nat)(kv x:Value)(W:World)(q:Pa):Prop:=
 PkAt W q.1 q.2/\FitM q.1/\∀i,q10u q.1 q.2 i->w.heap.size<=i/\x.ownBlock≠some i/\kv.ownBlock≠some i/\i≠f
structure TlS(w:World)(g:Nat)(v:Int)(m:Nat)(o:Option Nat)(f:Nat)(kv:Value)(K:List UInt8)(z k t e:Nat)(x:Value)(G:List Pa)(W:World):Prop where
 lt:g<w.heap.size
 kp:StK w W g o
 nb:NewB w o kv.ownBlock
 st:Stm W g v m kv z (nxV g z) k t e
 bf:Buf W kv K
 kg:kv.ownBlock≠some g
 kf:kv.ownBlock≠some f
 kl:∀b,kv.ownBlock=some b->b<W.heap.size
 ow:W.ownsRow w.heap.size 38 25 x G.length (pkCs G)
 xf:x.ownBlock≠some f
 xk:∀i,x.ownBlock=some i->kv.ownBlock≠some i
 pk:∀q∈G,PkW w f kv x W q
section
variable{w W W':World}{g m f z k t e z' k' t' e':Nat}{v:Int}{o:Option Nat}{kv kv' x x':Value}{K K':List UInt8}{G:List Pa}{q:Pa}
theorem PkW.kept(h:PkW w f kv x W q)(hs:W.heap.size<=W'.heap.size)(hb:∀i,q10u q.1 q.2 i->W'.heap[i]?=W.heap[i]?):PkW w f kv x W' q:=⟨h.1.moved hs hb,h.2⟩
theorem TlS.call(h:TlS w g v m o f kv K z k t e x G W)(hb:Below W.heap.size W W'):TlS w g v m o f kv K z k t e x G W':=
 ⟨h.lt,⟨hb.os.trans h.kp.os,hb.tape.trans h.kp.tape,hb.output.trans h.kp.output,Nat.le_trans h.kp.size hb.size,fun i hi h1 h2=>(hb.block i (Nat.lt_of_lt_of_le hi h.kp.size)).trans (h.kp.block i hi h1 h2)⟩,
  h.nb,h.st.below hb,h.bf.below hb,h.kg,h.kf,fun b hk=>Nat.lt_of_lt_of_le (h.kl b hk) hb.size,qzd3 h.ow hb,h.xf,h.xk,fun q hq=>(h.pk q hq).kept hb.size fun _ hi=>hb.block _ ((h.pk q hq).1.lists_lt hi)⟩
theorem TlS.upd(h:TlS w g v m o f kv K z k t e x G W)(hg:StK W W' g kv.ownBlock)(hs:Stm W' g v m kv' z' (nxV g z') k' t' e')(hb:Buf W' kv' K')(hn:NewB W kv.ownBlock kv'.ownBlock)(hl:∀b,kv'.ownBlock=some b->b<W'.heap.size)(hf:f<W.heap.size):TlS w g v m o f kv' K' z' k' t' e' x G W':=by
 have hx:∀i,x.ownBlock=some i->w.heap.size<=i/\i<W.heap.size/\i≠g:=fun i hi=>by
  have:=h.ow.lt i hi
  have:=h.lt
  omega
 refine⟨h.lt,h.kp.trans hg h.nb,h.nb.trans hn h.kp.size,hs,hb,hn.ne h.st.lt h.kg,hn.ne hf h.kf,hl,?_,h.xf,fun i hi=>?_,fun q hq=>?_⟩
 ·rcases h.ow.2 with h0|⟨i,c,cur,rfl,h1,h2,h3⟩
  ·exact⟨h.ow.1,.inl h0⟩
  ·obtain⟨-,a1,a2⟩:=hx i rfl;exact⟨h.ow.1,.inr ⟨i,c,cur,rfl,h1,(hg.block i a1 a2 (h.xk i rfl)).trans h2,h3⟩⟩
 ·exact hn.ne (hx i hi).2.1 (h.xk i hi)
 ·obtain⟨p1,p2,p3⟩:=h.pk q hq;have hlt:∀i,q10u q.1 q.2 i->i<W.heap.size:=fun i hi=>p1.lists_lt hi;exact⟨p1.moved hg.size fun i hi=>hg.block i (hlt i hi) (fun e=>by have:=(p3 i hi).1;have:=h.lt;omega) (p3 i hi).2.2.1,p2,fun i hi=>⟨(p3 i hi).1,(p3 i hi).2.1,hn.ne (hlt i hi) (p3 i hi).2.2.1,(p3 i hi).2.2.2⟩⟩
theorem TlS.same(h:TlS w g v m o f kv K z k t e x G W)(hg:W.grownBy W' (some g))(hs:Stm W' g v m kv z' (nxV g z') k' t' e')(hf:f<W.heap.size):TlS w g v m o f kv K z' k' t' e' x G W':=
 h.upd (StK.of1 hg) hs (h.bf.moved fun b hb _=>hg.block b (h.kl b hb) (fun e=>h.kg (by rw[hb,e]))) (.inl rfl) (fun b hb=>Nat.lt_of_lt_of_le (h.kl b hb) hg.size) hf
theorem TlS.fresh(h:TlS w g v m o f kv K z k t e x G W)(f':Nat)(hf:W.heap.size<=f'):TlS w g v m o f' kv K z k t e x G W:=
 ⟨h.lt,h.kp,h.nb,h.st,h.bf,h.kg,(fun e=>by have:=h.kl _ e;omega),h.kl,h.ow,(fun e=>by have:=(h.ow.lt _ e).2;omega),h.xk,fun q hq=>⟨(h.pk q hq).1,(h.pk q hq).2.1,fun i hi=>⟨((h.pk q hq).2.2 i hi).1,((h.pk q hq).2.2 i hi).2.1,((h.pk q hq).2.2 i hi).2.2.1,fun e=>by have:=(h.pk q hq).1.lists_lt hi;omega⟩⟩⟩
theorem TlS.row(h:TlS w g v m o f kv K z k t e x G W)(hf:w.heap.size<=f)(D:Array Value):TlS w g v m o f kv K z k t e x G (W.setRow f D):=by
 have ob:∀i,i≠f->(W.setRow f D).heap[i]?=W.heap[i]? := fun i hi=>setRow_other W f i D hi;have sz:(W.setRow f D).heap.size=W.heap.size:=by simp[World.setRow]
 refine⟨h.lt,⟨h.kp.os,h.kp.tape,h.kp.output,by rw[sz];exact h.kp.size,fun i hi h1 h2=>(ob i (by omega)).trans (h.kp.block i hi h1 h2)⟩,h.nb,h.st.of_block (ob g (by have:=h.lt;omega)),h.bf.moved fun b hb _=>ob b (fun e=>h.kf (by rw[hb,e])),h.kg,h.kf,by rw[sz];exact h.kl,?_,h.xf,h.xk,
  fun q hq=>(h.pk q hq).kept (by rw[sz];exact Nat.le_refl _) fun i hi=>ob i ((h.pk q hq).2.2 i hi).2.2.2⟩
 rcases h.ow.2 with h0|⟨i,c,cur,rfl,h1,h2,h3⟩
 ·exact⟨h.ow.1,.inl h0⟩
 ·exact⟨h.ow.1,.inr ⟨i,c,cur,rfl,h1,(ob i (fun e=>h.xf (by rw[e];rfl))).trans h2,h3⟩⟩
theorem TlS.app(h:TlS w g v m o f kv K z k t e x G W)(hq:PkW w f kv x W q)(ho:W'.ownsRow w.heap.size 38 25 x' (G.length+1) (pkCs G++(pkC q.1 q.2).toList))(hg:W.grownBy W' x.ownBlock)(hn:x'.ownBlock=x.ownBlock\/x'.ownBlock=some W.heap.size)(hf:f<W.heap.size):TlS w g v m o f kv K z k t e x' (G++[q]) W':=by
 have hxg:∀i,x.ownBlock=some i->w.heap.size<=i:=fun i hi=>(h.ow.lt i hi).1;have ne:∀i,x.ownBlock≠some i->i<W.heap.size->x'.ownBlock≠some i:=fun i h1 h2=>by
  rcases hn with e|e
  ·rw[e];exact h1
  ·rw[e];intro e2;have:=Option.some.inj e2;omega
 refine⟨h.lt,⟨hg.os.trans h.kp.os,hg.tape.trans h.kp.tape,hg.output.trans h.kp.output,Nat.le_trans h.kp.size hg.size,fun i hi h1 h2=>(hg.block i (Nat.lt_of_lt_of_le hi h.kp.size) (fun e=>by have:=hxg i e.symm;omega)).trans (h.kp.block i hi h1 h2)⟩,h.nb,
  h.st.of_block (hg.block g h.st.lt (fun e=>by have:=hxg g e.symm;have:=h.lt;omega)),h.bf.moved fun b hb hl=>hg.block b hl (fun e=>h.xk b e.symm hb),h.kg,h.kf,fun b hb=>Nat.lt_of_lt_of_le (h.kl b hb) hg.size,?_,ne f h.xf hf,fun i hi hk=>?_,fun r hr=>?_⟩
 ·rw[q0mi,List.length_append];have e:pkCs [q]=(pkC q.1 q.2).toList:=by simp[pkCs]
  rw[e];exact ho
 ·exact ne i (fun e=>h.xk i e hk) (h.kl i hk) hi
 ·have hr2:PkW w f kv x W r:=by
   rcases List.mem_append.1 hr with hr|hr
   ·exact h.pk r hr
   ·obtain rfl:r=q:=by simpa using hr
    exact hq
  obtain⟨p1,p2,p3⟩:=hr2;exact⟨p1.moved hg.size fun i hi=>hg.block i (p1.lists_lt hi) (fun e=>(p3 i hi).2.1 e.symm),p2,fun i hi=>⟨(p3 i hi).1,ne i (p3 i hi).2.1 (p1.lists_lt hi),(p3 i hi).2.2⟩⟩
end
theorem qbcq:(Tryz.prog.info? 38).map (fun i=>(i.zero,i.size,i.bytes))=some (some (.agg pkZ),25,312):=by kernel_rfl
def ql6b(w:World)(g:Nat)(v:Int)(m:Nat)(o:Option Nat)(R:List Pk×List UInt8×Nat×Nat)(k t:Nat)(G:List Pa)(E:Ending)(W:World):Prop:=
 ∃x kv z G',E=.returned x/\TlS w g v m o g kv R.2.1 z (k+R.2.2.1) (t+R.1.length) R.2.2.2 x (G++G') W/\G'.map (·.1)=R.1/\(R.2.2.2=0->z=qexp v m R.2.1)
structure TelK(w:World)(g:Nat)(v:Int)(m:Nat)(o:Option Nat)(R:List Pk×List UInt8×Nat×Nat)(k t L:Nat)(G:List Pa)(B:Nat)(kv:Value)(K:List UInt8)(k1 t1:Nat)(x:Value)(G1:List Pa)(P:Pk)(n q:Nat)(a:Ad)(W:World):Prop where
 nx:q7ku v m K=(P,n,q)
 st:TlS w g v m o B kv K (qexp v m K) k1 t1 0 x (G++G1) W
 bx:W.heap[B]?=some (.cells (pkC P a) 38 (0,0))
 pk:PkW w B kv x W (P,a)
 r1:R.1=G1.map (·.1)++(goW v m K).1
 r2:R.2.1=(goW v m K).2.1
 r3:k+R.2.2.1=k1+(goW v m K).2.2.1
 r4:R.2.2.2=(goW v m K).2.2.2
 l1:G1.length+K.length<=L
 l2:k1+K.length<=k+L
 l3:t1=t+G1.length
 lb:w.heap.size<=B
section
variable{w W W':World}{g m k t L B k1 t1 n q:Nat}{v:Int}{o:Option Nat}{R:List Pk×List UInt8×Nat×Nat}{kv x:Value}{K:List UInt8}{G G1:List Pa}{P:Pk}{a:Ad}
theorem TelK.done(h:TelK w g v m o R k t L G B kv K k1 t1 x G1 P n 3 a W):R=(G1.map (·.1),K,k1-k,0)/\k+R.2.2.1=k1:=by
 have hs:=qc57 (v:=v) (m:=m) (l:=K) (by rw[h.nx])
 have:=h.r3
 rw[hs] at this;simp only[Nat.add_zero] at this;refine⟨?_,this⟩;have e1:=h.r1;have e2:=h.r2;have e4:=h.r4;rw[hs] at e1 e2 e4;simp only[List.append_nil] at e1;obtain⟨a,b,c,d⟩:=R;simp only at e1 e2 e4 this ⊢;rw[e1,e2,e4,<-this];simp
theorem PkW.got{f z e:Nat}(h:TlS w g v m o f kv K z k t e x G W)(p1:PkAt W' P a)(p2:FitM P)(fr:FrA W P a){f':Nat}(hf:∀i,q10u P a i->i≠f'):PkW w f' kv x W' (P,a):=
 ⟨p1,p2,fun i hi=>by
  have h1:=fr.lists hi;refine⟨Nat.le_trans h.kp.size h1,fun e=>?_,fun e=>?_,hf i hi⟩
  ·have:=(h.ow.lt i e).2;omega
  ·have:=h.kl i e;omega⟩
theorem PkW.row{f:Nat}{q:Pa}(h:PkW w f kv x W q)(D:Array Value):PkW w f kv x (W.setRow f D) q:=
 h.kept (by simp[World.setRow]) fun i hi=>setRow_other W f i D (h.2.2 i hi).2.2.2
theorem TelK.start{z:Nat}(h:TlS w g v m o g kv K z k t 0 x G W)(h':TlS w g v m o g kv K (qexp v m K) k t 0 x G W')(hN:q7ku v m K=(P,n,q))(p1:PkAt W' P a)(p2:FitM P)(fr:FrA W P a):TelK w g v m o (goW v m K) k t K.length G W'.heap.size kv K k t x [] P n q a ((W'.alloc (.cells pkZ 38)).setRow W'.heap.size (pkC P a)):=by
 have hs:=h'.kp.size;have hb:=qybm (w:=W') (.cells pkZ 38);refine⟨hN,?_,setRow_heap _ _ _ _ _ _ (heap_alloc_new _ _),?_,rfl,rfl,rfl,rfl,by simp,Nat.le_refl _,rfl,hs⟩
 ·rw[List.append_nil];exact((h'.fresh W'.heap.size (Nat.le_refl _)).call hb).row hs _
 ·exact(PkW.got h (p1.below hb) p2 fr fun i hi=>by have:=p1.lists_lt hi;omega).row _
theorem TelK.step{z n' q':Nat}{P':Pk}{a':Ad}{x' kv':Value}(h:TelK w g v m o R k t L G B kv K k1 t1 x G1 P n 0 a W)(hz:qexp v m K=z)(hs:TlS w g v m o B kv' (K.drop z) (qexp v m (K.drop z)) (k1+z) (t1+1) 0 x' ((G++G1)++[(P,a)]) W')(hN:q7ku v m (K.drop z)=(P',n',q'))
 (hb:W'.heap[B]?=some (.cells (pkC P' a') 38 (0,0))) (hp:PkW w B kv' x' W' (P',a')):TelK w g v m o R k t L G B kv' (K.drop z) (k1+z) (t1+1) x' (G1++[(P,a)]) P' n' q' a' W':=by
 have h0:(q7ku v m K).2.2=0:=by rw[h.nx]
 obtain⟨-,b1,b2,b3⟩:=qnyoi h0;have hw:=q6ca h0;rw[b2,hz,h.nx] at hw;rw[hz] at b1 b3;have e1:=h.r1;have e2:=h.r2;have e3:=h.r3;have e4:=h.r4;have e5:=h.l1;have e6:=h.l2;have e7:=h.l3;rw[hw] at e1 e2 e3 e4;simp only at e1 e2 e3 e4;refine⟨hN,by rw[<-List.append_assoc];exact hs,hb,hp,by rw[e1];simp,e2,by omega,e4,?_,?_,?_,h.lb⟩
 ·rw[List.length_append,List.length_singleton,List.length_drop];omega
 ·rw[List.length_drop];omega
 ·rw[List.length_append,List.length_singleton];omega
end
structure StrS(w:World)(g:Nat)(v:Int)(m:Nat)(kv:Value)(K:List UInt8)(z k t e:Nat):Prop where
 st:Stm w g v m kv z (nxV g z) k t e
 bf:Buf w kv K
 kg:kv.ownBlock≠some g
 kl:∀b,kv.ownBlock=some b->b<w.heap.size
 sz:e=0->z=qexp v m K/\(q7ku v m K).2.2=3
 er:e≠0->K=[]
structure FeK(w:World)(g:Nat)(v:Int)(m:Nat)(o:Option Nat)(R:List Pk×List UInt8×Nat×Nat)(k t L:Nat)(kv:Value)(K:List UInt8)(z k1 t1 e1:Nat)(x:Value)(G:List Pa)(r:ByteArray)(W:World):Prop where
 tl:TlS w g v m o g kv K z k1 t1 e1 x G W
 sz:e1=0->z=qexp v m K/\(q7ku v m K).2.2=3
 ok:e1=0->R.1=G.map (·.1)++(goW v m (K++r.data.toList)).1/\R.2.1=(goW v m (K++r.data.toList)).2.1/\k+R.2.2.1=k1+(goW v m (K++r.data.toList)).2.2.1/\R.2.2.2=(goW v m (K++r.data.toList)).2.2.2
 bad:e1≠0->R.1=G.map (·.1)/\R.2.1=[]/\K=[]/\k+R.2.2.1=k1/\R.2.2.2=e1
 l1:G.length+K.length+r.size<=L
 l2:k1+K.length+r.size<=k+L
 l3:t1=t+G.length
section
variable{w W W':World}{g m k t L z k1 t1 e1:Nat}{v:Int}{o:Option Nat}{R:List Pk×List UInt8×Nat×Nat}{kv x:Value}{K:List UInt8}{G:List Pa}{r:ByteArray}
theorem FeK.step{o:Option Nat}{x':Value}{c1:List UInt8}{r2:ByteArray}{E:Ending}(h:FeK w g v m o R k t L kv K z k1 t1 0 x G r W)(hr:r.data.toList=c1++r2.data.toList)(hT:ql6b w g v m o (goW v m (K++c1)) k1 t1 G E W')(hE:E=.returned x') :
 ∃kv' K' z' k2 t2 e2 G',FeK w g v m o R k t L kv' K' z' k2 t2 e2 x' G' r2 W':=by
 obtain⟨x2,kv',z',G',hE2,hs,hm,hz⟩:=hT;rw[hE] at hE2;cases hE2;obtain⟨a1,a2,a3,a4⟩:=h.ok rfl;have hl:=qqsp (v:=v) (m:=m) _ (K++c1) (Nat.le_refl _);have hrest:=q2fk (v:=v) (m:=m) _ (K++c1) (Nat.le_refl _);have happ:=qszy (v:=v) (m:=m) r2.data.toList _ (K++c1) (Nat.le_refl _);rw[List.append_assoc,<-hr] at happ;obtain⟨⟨L1,K1,n1,q1⟩,hA⟩:∃A,goW v m (K++c1)=A:=⟨_,rfl⟩
 rw[hA] at hs hm hz hl hrest happ;simp only at hs hm hz hl hrest happ;have hlen:(G++G').length=G.length+L1.length:=by rw[List.length_append,<-hm,List.length_map]
 have hc:=congrArg List.length hr;rw[List.length_append,<-q4ad,<-q4ad] at hc;rw[List.length_append] at hl;have h1:=h.l1;have h2:=h.l2;have h3:=h.l3;refine⟨kv',K1,z',_,_,q1,G++G',hs,fun h0=>⟨hz h0,hrest h0⟩,fun h0=>?_,fun h0=>?_,?_,?_,?_⟩
 ·rw[happ,if_neg (by simpa using h0)] at a1 a2 a3 a4;simp only at a1 a2 a3 a4;exact⟨by rw[a1,List.map_append,hm,List.append_assoc],a2,by omega,a4⟩
 ·rw[happ,if_pos h0] at a1 a2 a3 a4;simp only at a1 a2 a3 a4;have hK1:K1=[]:=qkiq hA h0;exact⟨by rw[a1,List.map_append,hm],by rw[a2,hK1],hK1,a3,a4⟩
 ·rw[hlen];omega
 ·omega
 ·rw[hlen,h3];omega
theorem FeK.draws{o:Option Nat}(h:FeK w g v m o R k t L kv K z k1 t1 e1 x G r W)(n:Nat):FeK w g v m o R k t L kv K z k1 t1 e1 x G r (W.drewN n):=
 ⟨h.tl.call (qnpu (Below.refl _ _) n),h.sz,h.ok,h.bad,h.l1,h.l2,h.l3⟩
end
theorem TlS.append{w W:World}{g m z k t e:Nat}{v:Int}{o:Option Nat}{kv x:Value}{K L:List UInt8}{G:List Pa}(h:TlS w g v m o g kv K z k t e x G W){s:ByteArray}(hs:s.data.toList=L)(hL:L≠[])(hm:K.length+L.length<=70368744177664) :
 ∃A c W',(Builtin.append_ #[58,9] 58 #[kv,.string s]).run Tryz.prog W.drew=.ok (.slice A (K++L).length c) W'/\W'.cell? ⟨g,3,none⟩=some kv/\W'.frozen? ⟨g,3,none⟩=false/\
  TlS w g v m o g (.slice A (K++L).length c) (K++L) z k t e x G (W'.setCell ⟨g,3,none⟩ (.slice A (K++L).length c)):=by
 subst hs;have hd:TlS w g v m o g kv K z k t e x G W.drew:=h.call (Below.refl _ _).drew;obtain⟨kv',W',hrun,hb',hg',hnb⟩:=Buf.append hd.bf (fun W _=>qh9z (s:=s) W) hL hm;obtain⟨A,c,rfl,-⟩:=id hb';have hc':Stm W' g v m kv z (nxV g z) k t e:=hd.st.of_block (hg'.block g hd.st.lt (fun e=>hd.kg e.symm));have gk:=q99v W' g 3 (.slice A (K++s.data.toList).length c);have hn2:NewB W.drew kv.ownBlock (Value.slice A (K++s.data.toList).length c).ownBlock:=hnb.elim .inl fun h => .inr (.inr ⟨_,h.1,Nat.le_refl _⟩);refine⟨A,c,W',hrun,hc'.c3,hc'.fr 3,hd.upd ((StK.of2 hg').trans (StK.of1 gk) (.inl rfl)) (hc'.set3 _) (hb'.moved fun b hb2 hl=>gk.block b hl (fun e=>?_)) hn2 (fun b hb2=>?_) hd.st.lt⟩
 ·exact hn2.ne hd.st.lt hd.kg (by rw[hb2,e])
 ·refine Nat.lt_of_lt_of_le ?_ gk.size;rcases hnb with e|⟨e,e2⟩
  ·exact Nat.lt_of_lt_of_le (hd.kl b (by rw[<-e,hb2])) hg'.size
  ·have:=Option.some.inj (e.symm.trans hb2)
   rw[e2,<-this];exact Nat.lt_succ_self _
end Go.Proofs.YtefmhbioggcfaaaGreatDoor
