/- The contract of subscribe.Read. Condition: the bytes are no more than memory holds; at most 70,000 filters or codes. -/
import Derived.Great.BuildSlice
import Derived.Deep.DeepCutAuto
import Derived.Test.YtbecggefmbpnoaaGreatDoorK46
import Derived.Test.YtbecggefmbpnoaaGreatDoorK40
import Derived.Test.YtbecggefmbpnoaaGreatDoorK18
import Derived.Test.YtbecggefmbpnoaaGreatDoorK42
import Derived.Test.YtbecggefmbpnoaaGreatDoorK39
import Derived.Test.YtbecggefmbpnoaaGreatDoorK31
import Derived.Test.YtbecggefmbpnoaaGreatDoorK21
set_option maxRecDepth 100000
set_option maxHeartbeats 4000000
namespace Go.Proofs.YtbecggefmbpnoaaGreatDoor
open Go.RowKit
def FitS(p:Pk):Prop:=PkOk p∧q21o p
theorem q75u(x:Cs):x.text.1.length≤65535:=by
 unfold Cs.text
 split
 ·exact Nat.zero_le _
 ·exact(qslt _).2
theorem qt61(x:Cs)(v kind:Int):(x.filt v kind).1.topic.length≤65535:=by
 unfold Cs.filt
 simp only
 split
 ·exact q75u x
 ·exact q75u x
theorem qyj0{v kind:Int}:∀(n:Nat) (x:Cs),∀f∈(Cs.filts v kind n x).1,f.topic.length≤65535
 | 0,_,f,h=>by cases h
 | n+1,x,f,h=>by
  unfold Cs.filts at h
  split at h
  ·cases h
  ·rcases List.mem_cons.1 h with rfl | h
   ·exact qt61 x v kind
   ·exact qyj0 n _ f h
theorem qjsd{kind:Int}{i:Nat}{l:List Pr}{m:List Fi}{c:List Int}(hk:-9223372036854775808≤kind∧kind≤9223372036854775807)(hl:(∀p∈l,PrOk p∧p.text.length≤65535∧p.value.length≤65535)∧l.length≤1000)(hm:∀f∈m,f.topic.length≤65535)(hml:m.length≤70000)(hc:c.length≤70000) :
 FitS {Pk.zero with kind:=kind,id:=(i:Nat),props:=l,filters:=m,codes:=c}:=by
 refine⟨⟨hk,by show _≤(0:Int)∧(0:Int)≤_;decide,fun t ht=>?_,fun x hx=>(nomatch hx),fun x hx=>?_,fun x hx=>Nat.le_trans (hm x hx) (by decide)⟩,hc,hml,Nat.le_trans hl.2 (by decide),Nat.zero_le _⟩
 ·have:t=[]:=by simpa [Pk.texts,Pk.zero] using ht
  rw[this];decide
 ·obtain⟨h1,h2,h3⟩:=hl.1 x hx
  exact⟨h1,by omega,by omega⟩
theorem qphg:FitS Pk.zero:=by
 have:=qjsd (kind:=0) (i:=0) (l:=[]) (m:=[]) (c:=[]) (by decide) ⟨fun p hp=>(nomatch hp),Nat.zero_le _⟩ (fun p hp=>(nomatch hp)) (Nat.zero_le _) (Nat.zero_le _)
 exact this
def FewS(v kind:Int)(l:List UInt8):Prop:=((((Cs.mk l 0).num 2).2.props v kind).2.r.length≤70000∨(qsfj kind=true∧(Cs.filtsW v kind (((Cs.mk l 0).num 2).2.props v kind).2).1.length≤70000))
theorem qzm9{v kind:Int}{l:List UInt8}(hk:-9223372036854775808≤kind∧kind≤9223372036854775807)(hf:FewS v kind l):FitS (q4qr v kind ⟨l,0⟩).1:=by
 have hp:=q5pm ((Cs.mk l 0).num 2).2 v kind
 have hz:=q0qi ⟨l,0⟩
 unfold FewS at hf
 unfold q4qr
 simp only
 generalize ((Cs.mk l 0).num 2).1=i at *
 generalize ((Cs.mk l 0).num 2).2.props v kind=y at *
 have hlen:(Cs.filtsW v kind y.2).1.length≤y.2.r.length:=q8jt _ _
 have hcl:y.2.codes.1.length≤y.2.r.length:=by unfold Cs.codes;split;exact Nat.zero_le _;simp
 split
 ·refine qjsd hk hp (fun f h=>?_) ?_ (Nat.zero_le _)
  ·split at h
   ·exact qyj0 _ _ f h
   ·cases h
  ·split
   ·rcases hf with h | ⟨_,h⟩
    ·omega
    ·exact h
   ·exact Nat.zero_le _
 ·rename_i ha
  refine qjsd hk hp (fun f h=>by cases h) (Nat.zero_le _) ?_
  rcases hf with h | ⟨h,_⟩
  ·omega
  ·exact absurd h ha
def qxrf(w:World)(R:Pk×Nat)(e:Ending)(W:World):Prop:=
 ∃a:Ad,e = .returned (.tuple #[.agg (pkC R.1 a),.int .i64 (R.2:Nat)])∧PkAt W R.1 a∧R.1.props.length≤a.pc∧FitS R.1∧Below w.heap.size w W∧(R.2≠0→a=adZ)
structure QrS(w:World)(B:Nat)(P:Pk)(a:Ad)(W:World):Prop where
 low:Below w.heap.size w W
 rs:W.heap[w.heap.size]? = some (.cells pkZ 29 (0,0))
 pk:W.heap[B]? = some (.cells (pkC P a) 29 (0,0))
 at_:PkAt W P a
theorem QrS.call{w W W':World}{B:Nat}{P:Pk}{a:Ad}(h:QrS w B P a W)(hb:Below W.heap.size W W'):QrS w B P a W':=
 ⟨qxh2 h.low hb,(hb.block _ (lt_of_block h.rs)).trans h.rs,(hb.block _ (lt_of_block h.pk)).trans h.pk,h.at_.below hb⟩
theorem qhb8{W:World}{P:Pk}{a:Ad}{b:Nat}{D:Array Value}(h:PkAt W P a)(hw:a.w=none)(ha:∀g i,a.ps=some ⟨g,i,none⟩∨a.cs=some ⟨g,i,none⟩∨a.fs=some ⟨g,i,none⟩→b < g):PkAt (W.setRow b D) P a:=by
 refine⟨h.w.kept (by simp[World.setRow]) (fun g i e _=>by rw[hw] at e;cases e),h.cs.kept (by simp[World.setRow]) (fun g i e _=>setRow_other W b g _ ?_),h.fs.kept (by simp[World.setRow]) (fun g i e _=>setRow_other W b g _ ?_),h.ps.kept (by simp[World.setRow]) (fun g i e _=>setRow_other W b g _ ?_)⟩
 ·have:=ha g i (.inr (.inl e));omega
 ·have:=ha g i (.inr (.inr e));omega
 ·have:=ha g i (.inl e);omega
theorem ql0p(v kind:Int)(s:ByteArray)(w:World)(hk:(versC v&&qfws kind)=false) :
 Calls Tryz.prog 11 #[.int .i64 v,.int .i64 kind,.string s] w (qxrf w (Pk.zero,2)):=by
 have KN:=q7hd v kind
 have HZ:=Lib.hid qbwp
 have hzv:=qrai
 have hne:¬pkZ=#[]:=by intro h;have:=qbwp;rw[h] at this;cases this
 have PZ:Hid (pkZ.all (·.oneCell')=true):=Lib.hid (qmz0 Pk.zero adZ)
 have R0:=Lib.hid (heap_alloc_new w (.cells pkZ 29))
 have RT:=Lib.hid (show qxrf w (Pk.zero,2) (.returned (.tuple #[.agg pkZ,.int .i64 ((2:Nat):Int)])) ((w.alloc (.cells pkZ 29)).setRow w.heap.size pkZ) from
  ⟨adZ,rfl,qa3p _,Nat.zero_le _,qphg,q8xz (qybm _) (Nat.le_refl _) _,fun _=>rfl⟩)
 rw[hk] at KN
 replace KN:=Lib.hid KN
 clear hk
 go_enter Tryz.func11,Tryz.ntmps11
 go_wp2_with fail
 refine(KN.out _).mono ?_
 rintro e W ⟨rfl,rfl⟩
 go_wp2_with (first
  | (refine wpList_buildTo rfl 29 _ rfl (some _) rfl pkZ (by kernel_rfl) ?_)
  | (refine wpList_store_row rfl _ _ _ rfl w.heap.size pkZ rfl rfl 29 _ R0.out (by rw[HZ.out];exact q5nr) rfl PZ.out ?_))
 exact q8iy (cs:=pkZ) rfl rfl rfl rfl Tryz.underlying29 rfl (by rw[HZ.out];exact q5nr) (setRow_heap _ _ _ _ _ _ R0.out) RT.out
theorem qyoi(v kind:Int)(s:ByteArray)(w:World)(hk:(versC v&&qfws kind)=true)(hk0:-9223372036854775808≤kind)(hk1:kind≤9223372036854775807)(hm:s.size≤140737488351232)(hf:FewS v kind s.data.toList) :
 Calls Tryz.prog 11 #[.int .i64 v,.int .i64 kind,.string s] w (qxrf w (if (if (q4qr v kind ⟨s.data.toList,0⟩).2.e=0 then q3m2 v (q4qr v kind ⟨s.data.toList,0⟩).1 else(q4qr v kind ⟨s.data.toList,0⟩).2.e)≠0 then(Pk.zero,if (q4qr v kind ⟨s.data.toList,0⟩).2.e=0 then q3m2 v (q4qr v kind ⟨s.data.toList,0⟩).1 else(q4qr v kind ⟨s.data.toList,0⟩).2.e) else((q4qr v kind ⟨s.data.toList,0⟩).1,0))):=by
 have KN:=q7hd v kind
 have HZ:=Lib.hid qbwp
 have hzv:=qrai
 have hne:¬pkZ=#[]:=by intro h;have:=qbwp;rw[h] at this;cases this
 have PZ:Hid (pkZ.all (·.oneCell')=true):=Lib.hid (qmz0 Pk.zero adZ)
 have R0:=Lib.hid (heap_alloc_new w (.cells pkZ 29))
 have L0:=Lib.hid (qybm (w:=w) (.cells pkZ 29))
 have RZ:=Lib.hid (fun(e:Nat) W (hb:Below w.heap.size w W)=>(show qxrf w (Pk.zero,e) (.returned (.tuple #[.agg pkZ,.int .i64 (e:Nat)])) (W.setRow w.heap.size pkZ) from⟨adZ,rfl,qa3p _,Nat.zero_le _,qphg,q8xz hb (Nat.le_refl _) _,fun _=>rfl⟩))
 have hkd:qfws kind=true:=by rw[Bool.and_eq_true] at hk;exact hk.2
 rw[hk] at KN
 replace KN:=Lib.hid KN
 have hm9:s.size≤9223372036854775807:=by omega
 have RD:=fun cb W (h:CsAt W cb s ⟨s.data.toList,0⟩)=>qubv (v:=v) hkd hk0 hk1 hm9 hf h
 have FI:=qzm9 ⟨hk0,hk1⟩ hf
 obtain⟨⟨P,Y⟩,hz⟩:∃z,q4qr v kind ⟨s.data.toList,0⟩=z:=⟨_,rfl⟩
 rw[hz] at RD FI ⊢
 simp only at RD FI ⊢
 have ER:=fun cb W (h:CsAt W cb s Y)=>q3gp h
 obtain⟨f,hff⟩:∃f,Y.e=f:=⟨_,rfl⟩
 rw[hff] at ER ⊢
 have VA:=fun a W (h:PkAt W P a) (hc:P.props.length≤a.pc)=>qeuk v P a W h FI.2 FI.1 hc
 generalize q3m2 v P=q at *
 obtain⟨R,hR⟩:∃R,(if (if f=0 then q else f)≠0 then(Pk.zero,(if f=0 then q else f)) else(P,0))=R:=⟨_,rfl⟩
 rw[hR]
 have HR:=Lib.hid hR
 have HFI:=Lib.hid FI
 unfold rdS at RD
 replace RD:=Lib.hid RD
 replace VA:=Lib.hid VA
 replace ER:=Lib.hid ER
 clear hk hz hff hR FI hm hm9 hkd hf
 have ZW:=Lib.hid (show(w.alloc (.cells pkZ 29)).heap.size=w.heap.size+1 by simp)
 go_enter Tryz.func11,Tryz.ntmps11
 go_wp2_with fail
 refine(KN.out _).mono ?_
 rintro e W ⟨rfl,rfl⟩
 generalize w.alloc (.cells pkZ 29)=W0 at *
 go_wp2_with fail
 refine(q2gu s _).mono ?_
 rintro e W1 ⟨rfl,hc,hb1,hz1⟩
 have C1:=Lib.hid ((show CsAt W1 W0.heap.size s ⟨s.data.toList,0⟩ from⟨0,Nat.zero_le _,hc,by simp⟩).alloc (.cells #[.pointer (some ⟨W0.heap.size,0,none⟩),.int .i64 v,.int .i64 kind] 73))
 have L1:=Lib.hid ((qxh2 L0.out hb1).alloc (by have:=hb1.size;have:=ZW.out;omega) (.cells #[.pointer (some ⟨W0.heap.size,0,none⟩),.int .i64 v,.int .i64 kind] 73))
 have R1:=Lib.hid ((heap_alloc_old W1 (.cells #[.pointer (some ⟨W0.heap.size,0,none⟩),.int .i64 v,.int .i64 kind] 73) (Nat.lt_of_lt_of_le (lt_of_block R0.out) hb1.size)).trans ((hb1.block _ (lt_of_block R0.out)).trans R0.out))
 have X1:=Lib.hid (qq7p W1 W0.heap.size v kind)
 have Z1:=Lib.hid (show W1.heap.size=w.heap.size+2 by rw[hz1,ZW.out])
 clear hc hb1 hz1
 go_wp2_with fail
 refine(RD.out _ _ C1.out).mono ?_
 rintro e W2 ⟨⟨a,rfl,p1,p2,p3,p4⟩,hcy,hg⟩
 have L2:=L1.out.grown hg L1.out.size (fun k e=>by have:=Option.some.inj e;have:=ZW.out;omega)
 have R2:=(hg.block _ (lt_of_block R1.out) (fun e=>by have:=Option.some.inj e;have:=ZW.out;omega)).trans R1.out
 have X2:=(hg.block _ (lt_of_block X1.out) (fun e=>by have:=Option.some.inj e;have:=ZW.out;have:=Z1.out;omega)).trans X1.out
 have hbx:Below W2.heap.size W2 ((W2.alloc (.cells pkZ 29)).setRow W2.heap.size (pkC P a)):=q8xz (qybm (w:=W2) (.cells pkZ 29)) (Nat.le_refl _) (pkC P a)
 have S3:QrS w W2.heap.size P a ((W2.alloc (.cells pkZ 29)).setRow W2.heap.size (pkC P a)):=
  ⟨qxh2 L2 hbx,(hbx.block _ (lt_of_block R2)).trans R2,setRow_heap _ _ _ _ _ _ (heap_alloc_new W2 _),p1.below hbx⟩
 have C3:=hcy.below hbx
 have X3:=(hbx.block _ (lt_of_block X2)).trans X2
 have S3:=Lib.hid S3
 have CP:=Lib.hid p2
 have AD:=Lib.hid (And.intro p3 (fun g i e=>(by have h1:=p4 g i e;have h2:=Z1.out;rw[World.size_alloc] at h1;omega:w.heap.size < g)))
 have hD1:=qwmp P a
 have hD2:=qmz0 P a
 obtain⟨D,hD⟩:∃D,pkC P a=D:=⟨_,rfl⟩
 rw[hD] at hD1 hD2 S3 C3 X3 ⊢
 have HD:=Lib.hid hD
 have HD1:=Lib.hid hD1
 have HD2:=Lib.hid hD2
 have PKD:=Lib.hid (fun V (h:QrS w W2.heap.size P a V)=>(by rw[←hD];exact h.pk:V.heap[W2.heap.size]? = some (.cells D 29 (0,0))))
 have VAa:=VA.out a
 have VAa:=fun V (h:QrS w W2.heap.size P a V)=>(VAa V h.at_ CP.out).mono fun e W' hh=>(⟨hh.1,h.call hh.2⟩:_∧QrS w W2.heap.size P a W')
 rw[hD] at VAa
 have VAa:=Lib.hid VAa
 have FINT:=Lib.hid (fun V (h:QrS w W2.heap.size P a V)=>(show qxrf w (P,0) (.returned (.tuple #[.agg D,.int .i64 ((0:Nat):Int)])) (V.setRow w.heap.size D) from
  ⟨a,by rw[hD],qhb8 h.at_ AD.out.1 AD.out.2,CP.out,HFI.out,q8xz h.low (Nat.le_refl _) _,fun h=>absurd rfl h⟩))
 have EC:=Lib.hid (ER.out _ _ C3)
 have c0:((W2.alloc (.cells pkZ 29)).setRow W2.heap.size D).cell? ⟨W1.heap.size,0,none⟩=some (.pointer (some ⟨W0.heap.size,0,none⟩)):=cell_of_row _ _ 0 _ _ _ X3
 clear p1 p2 p3 p4 hg L2 R2 hbx hD1 hD2 hD VA RD hcy C3 X3 X2 C1 X1
 go_wp2_with (first
  | (refine wpList_store_row rfl _ _ _ rfl W2.heap.size D rfl rfl 29 _ (heap_alloc_new W2 _) (by rw[HD1.out];exact q5nr) (by rw[HZ.out,HD1.out]) HD2.out ?_))
 refine(EC.out).mono ?_
 rintro e W4 ⟨rfl,rfl⟩
 clear c0
 by_cases hf0:f=0
 ·subst hf0
  by_cases hq:q=0
  ·subst hq
   have hr:R=(P,0):=by rw[←HR.out];simp
   subst hr
   go_wp2_with (refine wpList_load_row rfl _ _ rfl W2.heap.size rfl 29 D (0,0) _ (PKD.out _ S3.out) Tryz.underlying29 rfl (by rw[HD1.out];exact q5nr) ?_)
   refine(VAa.out _ S3.out).mono ?_
   rintro e W4 ⟨rfl,hS⟩
   have S4:=Lib.hid hS
   have RS4:=Lib.hid hS.rs
   clear hS
   go_wp2_with (first
    | (refine wpList_store_row rfl _ _ _ rfl w.heap.size D rfl rfl 29 _ RS4.out (by rw[HD1.out];exact q5nr) (by rw[HZ.out,HD1.out]) HD2.out ?_)
    | (refine wpList_load_row rfl _ _ rfl W2.heap.size rfl 29 D (0,0) _ (PKD.out _ S4.out) Tryz.underlying29 rfl (by rw[HD1.out];exact q5nr) ?_))
   exact q8iy (cs:=D) rfl rfl rfl rfl Tryz.underlying29 rfl (by rw[HD1.out];exact q5nr) (setRow_heap _ _ _ _ _ _ RS4.out) (FINT.out _ S4.out)
  ·have hr:R=(Pk.zero,q):=by rw[←HR.out];simp[hq]
   subst hr
   have q1:((q:Int)==0)=false:=by simp;omega
   have q2:((q:Int) != 0)=true:=by simp;omega
   clear hq
   go_wp2_with (refine wpList_load_row rfl _ _ rfl W2.heap.size rfl 29 D (0,0) _ (PKD.out _ S3.out) Tryz.underlying29 rfl (by rw[HD1.out];exact q5nr) ?_)
   refine(VAa.out _ S3.out).mono ?_
   rintro e W4 ⟨rfl,hS⟩
   have RS4:=Lib.hid hS.rs
   have RT:=Lib.hid (RZ.out q W4 hS.low)
   clear hS
   go_wp2_with (first
    | (refine wpList_buildTo rfl 29 _ rfl (some _) rfl pkZ (by kernel_rfl) ?_)
    | (refine wpList_store_row rfl _ _ _ rfl w.heap.size pkZ rfl rfl 29 _ RS4.out (by rw[HZ.out];exact q5nr) rfl PZ.out ?_))
   exact q8iy (cs:=pkZ) rfl rfl rfl rfl Tryz.underlying29 rfl (by rw[HZ.out];exact q5nr) (setRow_heap _ _ _ _ _ _ RS4.out) RT.out
 ·have hr:R=(Pk.zero,f):=by rw[←HR.out];simp[hf0]
  subst hr
  have q1:((f:Int)==0)=false:=by simp;omega
  have q2:((f:Int) != 0)=true:=by simp;omega
  have RS4:=Lib.hid S3.out.rs
  have RT:=Lib.hid (RZ.out f _ S3.out.low)
  clear hf0
  go_wp2_with (first
   | (refine wpList_buildTo rfl 29 _ rfl (some _) rfl pkZ (by kernel_rfl) ?_)
   | (refine wpList_store_row rfl _ _ _ rfl w.heap.size pkZ rfl rfl 29 _ RS4.out (by rw[HZ.out];exact q5nr) rfl PZ.out ?_))
  exact q8iy (cs:=pkZ) rfl rfl rfl rfl Tryz.underlying29 rfl (by rw[HZ.out];exact q5nr) (setRow_heap _ _ _ _ _ _ RS4.out) RT.out
theorem qmor(v kind:Int)(s:ByteArray)(w:World)(hk0:-9223372036854775808≤kind)(hk1:kind≤9223372036854775807)(hm:s.size≤140737488351232)(hf:FewS v kind s.data.toList) :
 Calls Tryz.prog 11 #[.int .i64 v,.int .i64 kind,.string s] w (qxrf w (q98d v kind s.data.toList)):=by
 rw[qw0h]
 by_cases hk:(versC v&&qfws kind)=false
 ·rw[if_pos hk];exact ql0p v kind s w hk
 ·rw[if_neg hk];exact qyoi v kind s w (by simpa using hk) hk0 hk1 hm hf
theorem qfe2{v kind:Int}{l:List UInt8}(h:l.length≤70000):FewS v kind l:=by
 refine .inl ?_
 have h1:((Cs.mk l 0).num 2).2.r.length≤l.length:=by
  unfold Cs.num Cs.take
  split
  ·exact Nat.le_refl _
  ·split
   ·exact Nat.le_refl _
   ·simp
 have h2:(((Cs.mk l 0).num 2).2.props v kind).2.r.length≤((Cs.mk l 0).num 2).2.r.length:=by
  unfold Cs.props
  split
  ·exact Nat.le_refl _
  ·simp
 omega
theorem qu12{s:ByteArray}(r:List UInt8)(h:s.data.toList=share++47::r):7≤s.size∧((s.extract 0 7).toList==[36,115,104,97,114,101,47])=true:=by
 have hl:=congrArg List.length h
 rw[←q4ad,List.length_append,List.length_cons] at hl
 have h6:share.length=6:=rfl
 refine⟨by omega,?_⟩
 have e:=q31q s 0 7
 rw[Nat.zero_add,List.drop_zero,h] at e
 rw[e,q0c6]
 simp[share]
theorem qvd3{s:ByteArray}(h:¬∃r,s.data.toList=share++47::r):((s.extract 0 7).toList==[36,115,104,97,114,101,47])=false:=by
 rw[Bool.eq_false_iff]
 intro e
 apply h
 have e2:=q31q s 0 7
 rw[Nat.zero_add,List.drop_zero] at e2
 rw[e2,q0c6,beq_iff_eq] at e
 refine⟨s.data.toList.drop 7,?_⟩
 conv=>lhs;rw[←List.take_append_drop 7 s.data.toList,e]
 rfl
theorem qh7y{r g f:List UInt8}{ls:List (List UInt8)}(hv:qecx (share++47::r)=true)(h:lvls r=g::f::ls) :
 qar3 (share++47::r)=if g≠[]∧(43:UInt8)∉g∧(35:UInt8)∉g∧qw8n (q8nq (f::ls))=true then(g,q8nq (f::ls),true) else([],[],false):=by
 unfold qar3
 rw[quk3 qt0s,h]
 simp only[hv,true_and]
theorem q4xc{r g:List UInt8}(h:lvls r=[g]):qar3 (share++47::r)=([],[],false):=by
 unfold qar3
 rw[quk3 qt0s,h]
theorem qyzh(s:ByteArray)(w:World)(h:qecx s.data.toList=false∨¬∃r,s.data.toList=share++47::r) :
 Calls Tryz.prog 26 #[.string s] w fun e w'=>e = .returned (shv ([],[],false))∧w=w':=by
 have VA:=Lib.hid (qcip s w)
 rw[qphx]
 cases hv:qecx s.data.toList with
 | false=>
  rw[hv] at VA
  clear h hv
  go_enter Tryz.func26,Tryz.ntmps26
  go_wp2_with (go_at_call 71;with_reducible refine(VA.out).mono ?_;rintro e w1 ⟨rfl,rfl⟩)
  go_ret3
  exact⟨rfl,rfl⟩
 | true=>
  rw[hv] at VA
  have hn:¬∃r,s.data.toList=share++47::r:=by
   rcases h with h | h
   ·rw[hv] at h;cases h
   ·exact h
  by_cases h7:7≤s.size
  ·have e7:=qvd3 hn
   have g7:(7:Int)≤(s.size:Int):=by omega
   have g8:decide ((s.size:Int) < 7)=false:=decide_eq_false (by omega)
   clear h hv hn
   go_enter Tryz.func26,Tryz.ntmps26
   go_wp2_with (go_at_call 71;with_reducible refine(VA.out).mono ?_;rintro e w1 ⟨rfl,rfl⟩)
   go_ret3
   exact⟨rfl,rfl⟩
  ·have g8:decide ((s.size:Int) < 7)=true:=decide_eq_true (by omega)
   have g9:(s.size:Int) < 7:=by omega
   clear h hv hn h7
   go_enter Tryz.func26,Tryz.ntmps26
   go_wp2_with (go_at_call 71;with_reducible refine(VA.out).mono ?_;rintro e w1 ⟨rfl,rfl⟩)
   go_ret3
   exact⟨rfl,rfl⟩
theorem qiwg(r:List UInt8){g f:List UInt8}{ls:List (List UInt8)}(h:lvls r=g::f::ls):(q8nq (f::ls)).length≤r.length∧g.length≤r.length:=by
 have:=congrArg List.length (qz8l r)
 rw[h,qcnz g (by simp),List.length_append,List.length_cons] at this
 omega
theorem q3fa(s:ByteArray)(r:List UInt8)(w:World)(hs:s.size≤200000)(hv:qecx s.data.toList=true)(h:s.data.toList=share++47::r) :
 Calls Tryz.prog 26 #[.string s] w fun e w'=>e = .returned (shv (qar3 s.data.toList))∧Below w.heap.size w w':=by
 have VA:=qcip s w
 rw[hv] at VA
 replace VA:=Lib.hid VA
 obtain⟨h7,e7⟩:=qu12 r h
 have g7:(7:Int)≤(s.size:Int):=by omega
 have g8:decide ((s.size:Int) < 7)=false:=decide_eq_false (by omega)
 have LV:=quc1 s w hs
 have hl0:lvls s.data.toList=share::lvls r:=by rw[h,quk3 qt0s]
 rw[hl0] at LV
 have hrl:r.length≤s.size:=by
  have:=congrArg List.length h
  rw[←q4ad,List.length_append,List.length_cons] at this;omega
 have hvr:qecx (share++47::r)=true:=by rw[←h];exact hv
 rw[h]
 clear h hl0 hv h7
 obtain⟨g,tl,hg⟩:=List.exists_cons_of_ne_nil (q6q5 r)
 cases tl with
 | nil=>
  rw[q4xc hg,qphx]
  rw[hg] at LV
  replace LV:=Lib.hid LV
  clear hg hrl hvr hs
  go_enter Tryz.func26,Tryz.ntmps26
  go_wp2_with (go_at_call 71;with_reducible refine(VA.out).mono ?_;rintro e w1 ⟨rfl,rfl⟩)
  refine(LV.out).mono ?_
  rintro e W1 ⟨v,rfl,hown,hb⟩
  obtain⟨A,c,rfl,-,-,-⟩:=CL.owned hown hown.1
  have LO:=Lib.hid hb
  clear hown hb
  have hlen:([share,g]:List (List UInt8)).length=2:=rfl
  rw[hlen]
  go_wp2_with fail
  go_ret3
  exact⟨rfl,LO.out⟩
 | cons f ls=>
  rw[qh7y hvr hg]
  rw[hg] at LV
  obtain⟨hjl,hgl⟩:=qiwg r hg
  have H43:=fun W=>qwdg (bs g) 43 W (by rw[q5zk];omega)
  have H35:=fun W=>qwdg (bs g) 35 W (by rw[q5zk];omega)
  rw[qkd1] at H43 H35
  have FI:=fun W=>q2e6 (bs (q8nq (f::ls))) W (by rw[q5zk];omega)
  rw[qkd1] at FI
  have JN:=fun A n c W (h:SR W A (f::ls)) (hn:(f::ls).length=n) (hN:n≤200000)=>qylw A n c (f::ls) W h hn hN (by omega)
  have hcount:(lvls r).length≤r.length+1:=by
   rw[qspi]
   have:=List.count_le_length (a:=(47:UInt8)) (l:=r)
   omega
  rw[hg] at hcount
  have eg:((bs g).toList==[])=decide (g=[]):=by rw[q0c6,Bool.eq_iff_iff];simp
  have eg2:(bs g).toList.isEmpty=decide (g=[]):=by rw[q0c6,Bool.eq_iff_iff];simp
  obtain⟨m,hm⟩:∃m,ls.length=m:=⟨_,rfl⟩
  have hm3:m+1≤200000:=by simp only[List.length_cons] at hcount;omega
  have hm2:(m:Int)≤200000:=by omega
  have HM3:=Lib.hid hm3
  clear hm3
  have hcell1:([share,g,f]++ls).getD 1 []=g:=rfl
  obtain⟨R,hR⟩:∃R,(if g≠[]∧(43:UInt8)∉g∧(35:UInt8)∉g∧qw8n (q8nq (f::ls))=true then(g,q8nq (f::ls),true) else([],[],false))=R:=⟨_,rfl⟩
  rw[hR]
  have HR:Hid ((if decide (g=[])=false∧decide ((43:UInt8)∈g)=false∧decide ((35:UInt8)∈g)=false∧qw8n (q8nq (f::ls))=true then(g,q8nq (f::ls),true) else([],[],false))=R):=Lib.hid (by
   rw[←hR];simp only[decide_eq_false_iff_not,ne_eq])
  generalize decide (g=[])=b0 at *
  generalize decide ((43:UInt8)∈g)=b43 at *
  generalize decide ((35:UInt8)∈g)=b35 at *
  generalize qw8n (q8nq (f::ls))=bf at *
  replace H43:=Lib.hid (show ∀W,Calls Tryz.prog 73 #[.string (bs g),.int .u8 43] W fun e w'=>e = .returned (.bool b43)∧W=w' from H43)
  replace H35:=Lib.hid (show ∀W,Calls Tryz.prog 73 #[.string (bs g),.int .u8 35] W fun e w'=>e = .returned (.bool b35)∧W=w' from H35)
  replace LV:=Lib.hid LV
  replace FI:=Lib.hid FI
  replace JN:=Lib.hid JN
  have HM:=Lib.hid hm
  clear hvr hg hjl hgl hcount hs hrl hR hcell1 hm
  go_enter Tryz.func26,Tryz.ntmps26
  go_wp2_with (go_at_call 71;with_reducible refine(VA.out).mono ?_;rintro e w1 ⟨rfl,rfl⟩)
  refine(LV.out).mono ?_
  rintro e W1 ⟨v,rfl,hown,hb⟩
  obtain⟨A,c,rfl,hcap,hC,-⟩:=CL.owned hown hown.1
  have hsr:=qrpr hC
  obtain⟨gb,i,rfl,hlt,hcell⟩:=hsr (by simp)
  have LO:=Lib.hid hb
  have hc1:W1.cell? ⟨gb,i+1,none⟩=some (.string (bs g)):=hcell 1 (by simp)
  have SR2:=Lib.hid (show SR W1 (some ⟨gb,i+2,none⟩) (f::ls) from fun _=>⟨gb,i+2,rfl,hlt,fun j hj=>by
   have:=hcell (j+2) (by simp at hj ⊢;omega)
   rw[show i+(j+2)=i+2+j by omega] at this
   exact this⟩)
  have hlen:(share::g::f::ls).length=m+3:=by simp only[List.length_cons,HM.out]
  rw[hlen] at hcap ⊢
  have hcap2:((m+3:Nat):Int)≤(c:Int):=by omega
  have HLT:=Lib.hid hlt
  clear hown hb hC hsr hcell hlt hcap hlen
  have hnr:R=(g,q8nq (f::ls),true)∨True := .inr trivial
  cases b0 with
  | true=>
   have e:R=([],[],false):=by rw[←HR.out];simp
   subst e
   go_wp2_with fail
   go_ret3
   exact⟨rfl,LO.out⟩
  | false=>
   cases b43 with
   | true=>
    have e:R=([],[],false):=by rw[←HR.out];simp
    subst e
    go_wp2_with (go_at_call 73;with_reducible refine(H43.out _).mono ?_;rintro e w9 ⟨rfl,rfl⟩)
    go_ret3
    exact⟨rfl,LO.out⟩
   | false=>
    cases b35 with
    | true=>
     have e:R=([],[],false):=by rw[←HR.out];simp
     subst e
     go_wp2_with (first
      | (go_at_call 73;with_reducible refine(H43.out _).mono ?_;rintro e w9 ⟨rfl,rfl⟩)
      | (go_at_call 73;with_reducible refine(H35.out _).mono ?_;rintro e w9 ⟨rfl,rfl⟩))
     go_ret3
     exact⟨rfl,LO.out⟩
    | false=>
     go_wp2_with (first
      | (go_at_call 73;with_reducible refine(H43.out _).mono ?_;rintro e w9 ⟨rfl,rfl⟩)
      | (go_at_call 73;with_reducible refine(H35.out _).mono ?_;rintro e w9 ⟨rfl,rfl⟩))
     refine(JN.out _ (m+1) _ _ SR2.out (by simp only[List.length_cons,HM.out]) HM3.out).mono ?_
     rintro e w9 ⟨rfl,rfl⟩
     go_wp2_with fail
     refine(FI.out _).mono ?_
     rintro e w10 ⟨rfl,hb⟩
     have L2:=Lib.hid (qxh2 LO.out hb)
     have hc2:=(World.cell?_of_block (a:=⟨gb,i+1,none⟩) (hb.block gb HLT.out)).trans hc1
     clear hb
     cases bf with
     | true=>
      have e:R=(g,q8nq (f::ls),true):=by rw[←HR.out];simp
      subst e
      go_wp2_with fail
      go_ret3
      exact⟨rfl,L2.out⟩
     | false=>
      have e:R=([],[],false):=by rw[←HR.out];simp
      subst e
      go_wp2_with fail
      go_ret3
      exact⟨rfl,L2.out⟩
theorem q466(s:ByteArray)(w:World)(hs:s.size≤200000) :
 Calls Tryz.prog 26 #[.string s] w fun e w'=>e = .returned (shv (qar3 s.data.toList))∧Below w.heap.size w w':=by
 cases hv:qecx s.data.toList with
 | false=>
  rw[qn62 hv]
  exact(qyzh s w (.inl hv)).mono fun e w' ⟨he,hw⟩=>⟨he,hw▸Below.refl _ _⟩
 | true=>
  by_cases h:∃r,s.data.toList=share++47::r
  ·obtain⟨r,hr⟩:=h
   exact q3fa s r w hs hv hr
  ·rw[q1b7 h]
   exact(qyzh s w (.inr h)).mono fun e w' ⟨he,hw⟩=>⟨he,hw▸Below.refl _ _⟩
theorem qzm2(v:Int)(f:Fi)(w:World) :
 Calls Tryz.prog 69 #[.int .i64 v,.int .i64 10,.agg (fiC f)] w fun e w'=>e = .returned (.bool (optS v 10 f))∧Below w.heap.size w w':=by
 have S0:=Lib.hid (BxF.made w f)
 obtain⟨d,hd⟩:∃d,decide (f=q7yu f)=d:=⟨_,rfl⟩
 rw[show optS v 10 f=d by unfold optS;rw[if_pos rfl,hd]]
 have HD:=Lib.hid hd
 clear hd
 go_enter Tryz.func69,Tryz.ntmps69
 go_upto_region 2 with fail
 refine qknh (S:=BxF w f) (B:=w.heap.size) S0.out (fun W h=>h.box) (fun W h=>h.cell 0) HD.out ?_
 intro W h
 have LO:=Lib.hid h.low
 clear h
 go_wp2_with fail
 go_ret
 exact⟨rfl,LO.out⟩
theorem q0at(v kind:Int)(f:Fi)(w:World)(ht:f.topic.length≤200000) :
 Calls Tryz.prog 69 #[.int .i64 v,.int .i64 kind,.agg (fiC f)] w fun e w'=>e = .returned (.bool (optS v kind f))∧Below w.heap.size w w':=by
 by_cases hk:kind=10
 ·subst hk;exact qzm2 v f w
 have hk':(kind==10)=false:=beq_eq_false_iff_ne.2 hk
 have S0:=Lib.hid (BxF.made w f)
 have LO:=Lib.hid S0.out.low
 have k1:(w.alloc (.cells (fiC f) 32)).cell? ⟨w.heap.size,1,none⟩=some (.int .i64 f.qos):=S0.out.cell 1
 have k2:(w.alloc (.cells (fiC f) 32)).cell? ⟨w.heap.size,2,none⟩=some (.bool f.noLocal):=S0.out.cell 2
 have k3:(w.alloc (.cells (fiC f) 32)).cell? ⟨w.heap.size,3,none⟩=some (.bool f.asPub):=S0.out.cell 3
 have k4:(w.alloc (.cells (fiC f) 32)).cell? ⟨w.heap.size,4,none⟩=some (.int .i64 f.handling):=S0.out.cell 4
 have k0:(w.alloc (.cells (fiC f) 32)).cell? ⟨w.heap.size,0,none⟩=some (.string (bs f.topic)):=S0.out.cell 0
 by_cases hr:(0≤f.qos∧f.qos≤2)∧(0≤f.handling∧f.handling≤2)
 ·have SH:=fun W=>q466 (bs f.topic) W (by rw[q5zk];exact ht)
  rw[qkd1] at SH
  unfold shv at SH
  have e:optS v kind f=if v=4 then !f.noLocal&&!f.asPub&&f.handling==0 else !f.noLocal || !(qar3 f.topic).2.2:=by
   unfold optS
   rw[if_neg hk]
   simp[hr]
  rw[e]
  have h1:decide (f.qos < 0)=false∧decide (2 < f.qos)=false∧decide (f.handling < 0)=false∧decide (2 < f.handling)=false:=by
   simp only[decide_eq_false_iff_not];omega
  obtain⟨g1,g2,g3,g4⟩:=h1
  obtain⟨⟨x,y,z⟩,hx⟩:∃x,qar3 f.topic=x:=⟨_,rfl⟩
  rw[hx] at SH ⊢
  simp only at SH ⊢
  replace SH:=Lib.hid SH
  have K2:=Lib.hid (show ∀W,BxF w f W→W.cell? ⟨w.heap.size,2,none⟩=some (.bool f.noLocal) from fun W h=>h.cell 2)
  have hn:f.noLocal=true∨f.noLocal=false:=by cases f.noLocal<;>simp
  have hz:z=true∨z=false:=by cases z<;>simp
  generalize f.noLocal=n at *
  generalize f.asPub=a at *
  generalize f.qos=q at *
  generalize f.handling=g at *
  generalize bs f.topic=T at *
  clear hk ht hr hx e
  by_cases h4:v=4
  ·subst h4
   rw[if_pos rfl]
   clear SH hz
   have hh:(g==0)=true∨(g==0)=false:=by cases (g==0)<;>simp
   rcases hn with rfl | rfl<;>cases a<;>rcases hh with hh | hh
   all_goals
    rw[hh]
    go_enter Tryz.func69,Tryz.ntmps69
    go_wp2_with fail
    go_ret
    exact⟨rfl,LO.out⟩
  ·rw[if_neg h4]
   have h4':(v==4)=false:=beq_eq_false_iff_ne.2 h4
   clear h4
   rcases hn with rfl | rfl<;>rcases hz with rfl | rfl
   all_goals
    go_enter Tryz.func69,Tryz.ntmps69
    go_wp2_with fail
    refine(SH.out _).mono ?_
    rintro e W ⟨rfl,hb⟩
    replace k2:=K2.out W (S0.out.call hb)
    have LO:=Lib.hid (S0.out.call hb).low
    clear hb
    go_wp2_with fail
    go_ret
    exact⟨rfl,LO.out⟩
 ·rw[q5gw hr kind hk]
  have h1:decide (f.qos < 0)=true∨(decide (f.qos < 0)=false∧decide (2 < f.qos)=true)∨(decide (f.qos < 0)=false∧decide (2 < f.qos)=false∧decide (f.handling < 0)=true)∨(decide (f.qos < 0)=false∧decide (2 < f.qos)=false∧decide (f.handling < 0)=false∧decide (2 < f.handling)=true):=by
   simp only[decide_eq_true_eq,decide_eq_false_iff_not];omega
  generalize f.qos=q at *
  generalize f.handling=g at *
  clear hk ht hr k0 k2 k3
  rcases h1 with h | ⟨h,h2⟩ | ⟨h,h2,h3⟩ | ⟨h,h2,h3,h4⟩
  all_goals
   go_enter Tryz.func69,Tryz.ntmps69
   go_wp2_with fail
   go_ret
   exact⟨rfl,LO.out⟩
theorem qy2j(f:Fi)(w:World):Calls Tryz.prog 17 #[.agg (fiC f)] w fun e w'=>e = .returned (.int .i64 (qang f:Nat))∧Below w.heap.size w w':=by
 have S0:=Lib.hid (BxF.made w f)
 have FO:=Lib.hid (fun z W (h:BxF w f W)=>(qtxp z W).mono fun e W' (hh:_∧W=W')=>(⟨hh.1,hh.2▸h⟩:_∧BxF w f W'))
 have E1:=Lib.hid (show IntKind.i64.wrap (16*(f.handling%4))=16*(f.handling%4) by rw[IntKind.wrap_i64];omega)
 have E2:=Lib.hid (show IntKind.i64.wrap (f.qos%4+16*(f.handling%4))=f.qos%4+16*(f.handling%4) by rw[IntKind.wrap_i64];omega)
 have hb:((qang f:Nat):Int)=f.qos%4+16*(f.handling%4)+(bitC f.noLocal 4:Nat)+(bitC f.asPub 8:Nat):=by
  unfold qang;omega
 have K2:=Lib.hid (show ∀W,BxF w f W→W.cell? ⟨w.heap.size,2,none⟩=some (.bool f.noLocal) from fun W h=>h.cell 2)
 have K3:=Lib.hid (show ∀W,BxF w f W→W.cell? ⟨w.heap.size,3,none⟩=some (.bool f.asPub) from fun W h=>h.cell 3)
 have hm:0≤f.qos%4+16*(f.handling%4)∧f.qos%4+16*(f.handling%4)≤51:=by omega
 rw[hb]
 obtain⟨m,hmm⟩:∃m,f.qos%4+16*(f.handling%4)=m:=⟨_,rfl⟩
 have E2:=Lib.hid (E2.out.trans hmm)
 rw[hmm] at hm ⊢
 have HM:=Lib.hid hm
 have w1:wrap64 (m+4)=m+4:=by unfold wrap64;omega
 have w2:wrap64 (m+8)=m+8:=by unfold wrap64;omega
 have w3:wrap64 (m+4+8)=m+4+8:=by unfold wrap64;omega
 cases hn:f.noLocal<;>cases ha:f.asPub
 all_goals
  rw[hn] at K2
  rw[ha] at K3
  clear hb hm hmm hn ha
  go_enter Tryz.func17,Tryz.ntmps17
  go_upto_region 1 with fail
  refine qw0z (S:=BxF w f) (B:=w.heap.size) S0.out.draw (fun W h=>h.cell 1) (fun W h=>h.cell 4) E1.out E2.out FO.out ?_
  intro W h
  have k2:=K2.out W h
  have k3:=K3.out W h
  have LO:=Lib.hid h.low
  clear h
  go_wp2_with fail
  go_ret
  exact⟨congrArg (fun z=>Ending.returned (.int .i64 z)) (by have:=HM.out;simp[bitC,Int.add_assoc]<;>(unfold wrap64;omega)),LO.out⟩
end Go.Proofs.YtbecggefmbpnoaaGreatDoor
