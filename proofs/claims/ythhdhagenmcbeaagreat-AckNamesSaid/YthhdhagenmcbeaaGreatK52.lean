/- The contract of ack.Read. Condition: the bytes are no more than memory holds. -/
import Derived.Test.YthhdhagenmcbeaaGreatK51
set_option maxRecDepth 100000
set_option maxHeartbeats 1000000
namespace Go.Proofs.YthhdhagenmcbeaaGreat
open Go.RowKit
def FitA(p:Pk):Prop:=PkOk p∧q21o p
theorem q0yw{kind:Int}{i c:Nat}{l:List Pr}(hk:-9223372036854775808≤kind∧kind≤9223372036854775807)(hl:(∀p∈l,PrOk p∧p.text.length≤65535∧p.value.length≤65535)∧l.length≤1000):FitA (pkB kind i c l):=by
 refine⟨⟨hk,by show _≤(0:Int)∧(0:Int)≤_;decide,fun t ht=>?_,fun x hx=>(nomatch hx),fun x hx=>?_,fun x hx=>(nomatch hx)⟩,Nat.zero_le _,Nat.zero_le _,Nat.le_trans hl.2 (by decide),Nat.zero_le _⟩
 ·have:t=[]:=by simpa [Pk.texts,Pk.zero,pkB] using ht
  rw[this];decide
 ·obtain⟨h1,h2,h3⟩:=hl.1 x hx
  exact⟨h1,by omega,by omega⟩
theorem qkys:FitA Pk.zero:=by
 have:=q0yw (kind:=0) (i:=0) (c:=0) (l:=[]) (by decide) ⟨fun p hp=>(nomatch hp),Nat.zero_le _⟩
 exact this
theorem q22l{v kind:Int}(hk:-9223372036854775808≤kind∧kind≤9223372036854775807)(y:Cs):FitA (qts0 v kind y).1:=by
 unfold qts0
 simp only
 refine q0yw hk ?_
 unfold midB qolc
 split
 ·split
  ·exact⟨fun p hp=>(nomatch hp),Nat.zero_le _⟩
  ·split
   ·exact⟨fun p hp=>(nomatch hp),Nat.zero_le _⟩
   ·exact qdz1 _ _
 ·exact⟨fun p hp=>(nomatch hp),Nat.zero_le _⟩
theorem qpbq(v kind:Int)(y:Cs):∃i c l,(qts0 v kind y).1=pkB kind i c l:=⟨_,_,_,rfl⟩
def qplq(w:World)(R:Pk×Nat)(e:Ending)(W:World):Prop:=
 ∃a:Ad,e = .returned (.tuple #[.agg (pkC R.1 a),.int .i64 (R.2:Nat)])∧PkAt W R.1 a∧R.1.props.length≤a.pc∧FitA R.1∧Below w.heap.size w W∧(R.2≠0→a=adZ)
structure KrS(w:World)(B:Nat)(P:Pk)(a:Ad)(W:World):Prop where
 low:Below w.heap.size w W
 rs:W.heap[w.heap.size]? = some (.cells pkZ 35 (0,0))
 hB:w.heap.size < B
 pk:W.heap[B]? = some (.cells (pkC P a) 35 (0,0))
 at_:PkAt W P a
 pf:∀g i,a.ps=some ⟨g,i,none⟩→w.heap.size < g
theorem KrS.call{w W W':World}{B:Nat}{P:Pk}{a:Ad}(h:KrS w B P a W)(hb:Below W.heap.size W W'):KrS w B P a W':=
 ⟨qxh2 h.low hb,(hb.block _ (lt_of_block h.rs)).trans h.rs,h.hB,(hb.block _ (lt_of_block h.pk)).trans h.pk,h.at_.below hb,h.pf⟩
theorem qbjs(v kind:Int)(s:ByteArray)(w:World)(hk0:-9223372036854775808≤kind)(hk1:kind≤9223372036854775807)(hm:s.size≤140737488351232) :
 Calls Tryz.prog 8 #[.int .i64 v,.int .i64 kind,.string s] w (qplq w (q9uf v kind s.data.toList)):=by
 have KN:=qnzz v kind
 have HZ:=Lib.hid qbwp
 have hzv:=qrai
 have hne:¬pkZ=#[]:=by intro h;have:=qbwp;rw[h] at this;cases this
 have PZ:Hid (pkZ.all (·.oneCell')=true):=Lib.hid (qmz0 Pk.zero adZ)
 have R0:=Lib.hid (heap_alloc_new w (.cells pkZ 35))
 have L0:=Lib.hid (qybm (w:=w) (.cells pkZ 35))
 have RZ:=Lib.hid (fun(e:Nat) W (hb:Below w.heap.size w W)=>(show qplq w (Pk.zero,e) (.returned (.tuple #[.agg pkZ,.int .i64 (e:Nat)])) (W.setRow w.heap.size pkZ) from⟨adZ,rfl,qa3p _,Nat.zero_le _,qkys,q8xz hb (Nat.le_refl _) _,fun _=>rfl⟩))
 rw[q96o]
 by_cases hk:(versC v&&qvya kind)=false
 ·rw[if_pos hk]
  rw[hk] at KN
  have KN:=Lib.hid KN
  clear hk
  go_enter Tryz.func8,Tryz.ntmps8
  go_wp2_with fail
  refine(KN.out _).mono ?_
  rintro e W ⟨rfl,rfl⟩
  go_wp2_with (first
   | (refine wpList_buildTo rfl 35 _ rfl (some _) rfl pkZ (by kernel_rfl) ?_)
   | (refine wpList_store_row rfl _ _ _ rfl w.heap.size pkZ rfl rfl 35 _ R0.out (by rw[HZ.out];exact q5nr) rfl PZ.out ?_))
  refine q8iy (cs:=pkZ) rfl rfl rfl rfl Tryz.underlying35 rfl (by rw[HZ.out];exact q5nr) (setRow_heap _ _ _ _ _ _ R0.out) ?_
  exact RZ.out 2 _ L0.out
 ·rw[if_neg hk]
  rw[Bool.not_eq_false] at hk
  rw[hk] at KN
  have KN:=Lib.hid KN
  have RD:=fun cb W (h:CsAt W cb s ⟨s.data.toList,0⟩)=>q8pc v hk0 hk1 hm h
  have FI:=q22l (v:=v) ⟨hk0,hk1⟩ ⟨s.data.toList,0⟩
  obtain⟨pi,pc,pl,hpl⟩:=qpbq v kind ⟨s.data.toList,0⟩
  obtain⟨z,hz⟩:∃z,qts0 v kind ⟨s.data.toList,0⟩=z:=⟨_,rfl⟩
  rw[hz] at RD FI hpl ⊢
  obtain⟨P,Y⟩:=z
  simp only at RD FI hpl ⊢
  have PT:∀W a,PL W a.ps P.props→PkAt W P a:=fun W a h=>by
   subst hpl
   exact⟨fun e=>absurd rfl e,fun e=>absurd rfl e,fun e=>absurd rfl e,h⟩
  obtain⟨f,hf⟩:∃f,Y.e=f:=⟨_,rfl⟩
  rw[hf] at RD ⊢
  have VA:=fun a W (h:PkAt W P a) (hc:P.props.length≤a.pc)=>qat7 v P a W h FI.2 FI.1 hc
  generalize qryp v P=q at *
  obtain⟨R,hR⟩:∃R,(if (if f=0 then q else f)≠0 then(Pk.zero,(if f=0 then q else f)) else(P,0))=R:=⟨_,rfl⟩
  rw[hR]
  have HR:=Lib.hid hR
  have HFI:=Lib.hid FI
  replace RD:=Lib.hid RD
  replace PT:=Lib.hid PT
  replace VA:=Lib.hid VA
  clear hk hz hpl hf hR FI hm
  have ZW:=Lib.hid (show(w.alloc (.cells pkZ 35)).heap.size=w.heap.size+1 by simp)
  go_enter Tryz.func8,Tryz.ntmps8
  go_wp2_with fail
  refine(KN.out _).mono ?_
  rintro e W ⟨rfl,rfl⟩
  generalize w.alloc (.cells pkZ 35)=W0 at *
  go_wp2_with fail
  refine(q2gu s _).mono ?_
  rintro e W1 ⟨rfl,hc,hb1,hz1⟩
  have C1:=(show CsAt W1 W0.heap.size s ⟨s.data.toList,0⟩ from⟨0,Nat.zero_le _,hc,by simp⟩)
  replace C1:=Lib.hid C1
  have L1:=Lib.hid (qxh2 L0.out hb1)
  have R1:=Lib.hid ((hb1.block _ (lt_of_block R0.out)).trans R0.out)
  have Z1:=Lib.hid (show W1.heap.size=w.heap.size+2 by rw[hz1,ZW.out])
  clear hc hb1 hz1
  go_wp2_with fail
  refine(RD.out _ _ C1.out).mono ?_
  rintro e W2 ⟨a,rfl,p1,p2,p3,hg⟩
  have L2:=L1.out.grown hg L1.out.size (fun k e=>by have:=Option.some.inj e;have:=ZW.out;omega)
  have R2:=(hg.block _ (lt_of_block R1.out) (fun e=>by have:=Option.some.inj e;have:=ZW.out;omega)).trans R1.out
  have hbx:Below W2.heap.size W2 ((W2.alloc (.cells pkZ 35)).setRow W2.heap.size (pkC P a)):=q8xz (qybm (w:=W2) (.cells pkZ 35)) (Nat.le_refl _) (pkC P a)
  have S3:KrS w W2.heap.size P a ((W2.alloc (.cells pkZ 35)).setRow W2.heap.size (pkC P a)):=
   ⟨qxh2 L2 hbx,(hbx.block _ (lt_of_block R2)).trans R2,by have:=hg.size;have:=Z1.out;omega,setRow_heap _ _ _ _ _ _ (heap_alloc_new W2 _),PT.out _ a (p1.below hbx),fun g i e=>by have:=p3 g i e;have:=Z1.out;omega⟩
  have S3:=Lib.hid S3
  have CP:=Lib.hid p2
  have hD1:=qwmp P a
  have hD2:=qmz0 P a
  obtain⟨D,hD⟩:∃D,pkC P a=D:=⟨_,rfl⟩
  rw[hD] at hD1 hD2 S3 ⊢
  have HD:=Lib.hid hD
  have HD1:=Lib.hid hD1
  have HD2:=Lib.hid hD2
  have PKD:=Lib.hid (fun V (h:KrS w W2.heap.size P a V)=>(by rw[←hD];exact h.pk:V.heap[W2.heap.size]? = some (.cells D 35 (0,0))))
  have VAa:=VA.out a
  have VAa:=fun V (h:KrS w W2.heap.size P a V)=>(VAa V h.at_ CP.out).mono fun e W' hh=>(⟨hh.1,h.call hh.2⟩:_∧KrS w W2.heap.size P a W')
  rw[hD] at VAa
  have VAa:=Lib.hid VAa
  have FINT:=Lib.hid (fun V (h:KrS w W2.heap.size P a V)=>(show qplq w (P,0) (.returned (.tuple #[.agg D,.int .i64 ((0:Nat):Int)])) (V.setRow w.heap.size D) from
   ⟨a,by rw[hD],PT.out _ a (h.at_.ps.kept (by simp[World.setRow]) (fun g i e _=>setRow_other V w.heap.size g _ (by have:=h.pf g i e;omega))),CP.out,HFI.out,q8xz h.low (Nat.le_refl _) _,fun h=>absurd rfl h⟩))
  clear p1 p2 p3 hg L2 R2 hbx hD1 hD2 hD VA PT RD
  by_cases hf0:f=0
  ·subst hf0
   by_cases hq:q=0
   ·subst hq
    have hr:R=(P,0):=by rw[←HR.out];simp
    subst hr
    go_wp2_with (first
     | (refine wpList_store_row rfl _ _ _ rfl W2.heap.size D rfl rfl 35 _ (heap_alloc_new W2 _) (by rw[HD1.out];exact q5nr) (by rw[HZ.out,HD1.out]) HD2.out ?_)
     | (refine wpList_load_row rfl _ _ rfl W2.heap.size rfl 35 D (0,0) _ (PKD.out _ S3.out) Tryz.underlying35 rfl (by rw[HD1.out];exact q5nr) ?_))
    refine(VAa.out _ S3.out).mono ?_
    rintro e W4 ⟨rfl,hS⟩
    have S4:=Lib.hid hS
    have RS4:=Lib.hid hS.rs
    clear hS
    go_wp2_with (first
     | (refine wpList_store_row rfl _ _ _ rfl w.heap.size D rfl rfl 35 _ RS4.out (by rw[HD1.out];exact q5nr) (by rw[HZ.out,HD1.out]) HD2.out ?_)
     | (refine wpList_load_row rfl _ _ rfl W2.heap.size rfl 35 D (0,0) _ (PKD.out _ S4.out) Tryz.underlying35 rfl (by rw[HD1.out];exact q5nr) ?_))
    exact q8iy (cs:=D) rfl rfl rfl rfl Tryz.underlying35 rfl (by rw[HD1.out];exact q5nr) (setRow_heap _ _ _ _ _ _ RS4.out) (FINT.out _ S4.out)
   ·have hr:R=(Pk.zero,q):=by rw[←HR.out];simp[hq]
    subst hr
    have q1:((q:Int)==0)=false:=by simp;omega
    have q2:((q:Int) != 0)=true:=by simp;omega
    clear hq
    go_wp2_with (first
     | (refine wpList_store_row rfl _ _ _ rfl W2.heap.size D rfl rfl 35 _ (heap_alloc_new W2 _) (by rw[HD1.out];exact q5nr) (by rw[HZ.out,HD1.out]) HD2.out ?_)
     | (refine wpList_load_row rfl _ _ rfl W2.heap.size rfl 35 D (0,0) _ (PKD.out _ S3.out) Tryz.underlying35 rfl (by rw[HD1.out];exact q5nr) ?_))
    refine(VAa.out _ S3.out).mono ?_
    rintro e W4 ⟨rfl,hS⟩
    have RS4:=Lib.hid hS.rs
    have RT:=Lib.hid (RZ.out q W4 hS.low)
    clear hS
    go_wp2_with (first
     | (refine wpList_buildTo rfl 35 _ rfl (some _) rfl pkZ (by kernel_rfl) ?_)
     | (refine wpList_store_row rfl _ _ _ rfl w.heap.size pkZ rfl rfl 35 _ RS4.out (by rw[HZ.out];exact q5nr) rfl PZ.out ?_))
    exact q8iy (cs:=pkZ) rfl rfl rfl rfl Tryz.underlying35 rfl (by rw[HZ.out];exact q5nr) (setRow_heap _ _ _ _ _ _ RS4.out) RT.out
  ·have hr:R=(Pk.zero,f):=by rw[←HR.out];simp[hf0]
   subst hr
   have q1:((f:Int)==0)=false:=by simp;omega
   have q2:((f:Int) != 0)=true:=by simp;omega
   have RS4:=Lib.hid S3.out.rs
   have RT:=Lib.hid (RZ.out f _ S3.out.low)
   clear hf0
   go_wp2_with (first
    | (refine wpList_store_row rfl _ _ _ rfl W2.heap.size D rfl rfl 35 _ (heap_alloc_new W2 _) (by rw[HD1.out];exact q5nr) (by rw[HZ.out,HD1.out]) HD2.out ?_)
    | (refine wpList_buildTo rfl 35 _ rfl (some _) rfl pkZ (by kernel_rfl) ?_)
    | (refine wpList_store_row rfl _ _ _ rfl w.heap.size pkZ rfl rfl 35 _ RS4.out (by rw[HZ.out];exact q5nr) rfl PZ.out ?_))
   exact q8iy (cs:=pkZ) rfl rfl rfl rfl Tryz.underlying35 rfl (by rw[HZ.out];exact q5nr) (setRow_heap _ _ _ _ _ _ RS4.out) RT.out
end Go.Proofs.YthhdhagenmcbeaaGreat
