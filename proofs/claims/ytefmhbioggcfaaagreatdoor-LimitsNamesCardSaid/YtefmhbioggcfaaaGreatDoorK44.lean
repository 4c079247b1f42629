/- The contract of subscribe.Read. Condition: the bytes are no more than memory holds; at most 70,000 filters or codes. -/
import Derived.Test.YtefmhbioggcfaaaGreatDoorK37
import Derived.Test.YtefmhbioggcfaaaGreatDoorK43
set_option maxRecDepth 100000
set_option maxHeartbeats 4000000
namespace Go.Proofs.YtefmhbioggcfaaaGreatDoor
open Lib(hid)
open Proofs.Tryz
open Go.RowKit
def FitS(p:Pk):Prop:=PkOk p/\q21o p
theorem q75u(x:Cs):x.text.1.length<=65535:=by
 unfold Cs.text;split
 ·exact Nat.zero_le _
 ·exact(qslt _).2
theorem qt61(x:Cs)(v kind:Int):(x.filt v kind).1.topic.length<=65535:=by
 unfold Cs.filt;simp only;split
 ·exact q75u x
 ·exact q75u x
theorem qyj0{v kind:Int}:∀(n:Nat) (x:Cs),∀f∈(Cs.filts v kind n x).1,f.topic.length<=65535
 |0,_,f,h=>by cases h
 |n+1,x,f,h=>by
  unfold Cs.filts at h;split at h
  ·cases h
  ·rcases List.mem_cons.1 h with rfl|h
   ·exact qt61 x v kind
   ·exact qyj0 n _ f h
theorem qjsd{kind:Int}{i:Nat}{l:List Pr}{m:List Fi}{c:List Int}(hk:-9223372036854775808<=kind/\kind<=9223372036854775807)(hl:(∀p∈l,PrOk p/\p.text.length<=65535/\p.value.length<=65535)/\l.length<=1000)(hm:∀f∈m,f.topic.length<=65535)(hml:m.length<=70000)(hc:c.length<=70000) :
 FitS {Pk.zero with kind:=kind,id:=(i:Nat),props:=l,filters:=m,codes:=c}:=by
 refine⟨⟨hk,by show _<=(0:Int)/\(0:Int)<=_;decide,fun t ht=>?_,fun x hx=>(nomatch hx),fun x hx=>?_,fun x hx=>Nat.le_trans (hm x hx) (by decide)⟩,hc,hml,Nat.le_trans hl.2 (by decide),Nat.zero_le _⟩
 ·have:t=[]:=by simpa [Pk.texts,Pk.zero] using ht
  rw[this];decide
 ·obtain⟨h1,h2,h3⟩:=hl.1 x hx;exact⟨h1,by omega,by omega⟩
theorem qphg:FitS Pk.zero:=by
 have:=qjsd (kind:=0) (i:=0) (l:=[]) (m:=[]) (c:=[]) (by decide) ⟨fun p hp=>(nomatch hp),Nat.zero_le _⟩ (fun p hp=>(nomatch hp)) (Nat.zero_le _) (Nat.zero_le _)
 exact this
def FewS(v kind:Int)(l:List UInt8):Prop:=((((Cs.mk l 0).num 2).2.props v kind).2.r.length<=70000\/(qsfj kind=true/\(Cs.filtsW v kind (((Cs.mk l 0).num 2).2.props v kind).2).1.length<=70000))
theorem qzm9{v kind:Int}{l:List UInt8}(hk:-9223372036854775808<=kind/\kind<=9223372036854775807)(hf:FewS v kind l):FitS (q4qr v kind ⟨l,0⟩).1:=by
 have hp:=q5pm ((Cs.mk l 0).num 2).2 v kind;have hz:=q0qi ⟨l,0⟩;unfold FewS at hf;unfold q4qr;simp only;generalize ((Cs.mk l 0).num 2).1=i at *;generalize ((Cs.mk l 0).num 2).2.props v kind=y at *;have hlen:(Cs.filtsW v kind y.2).1.length<=y.2.r.length:=q8jt _ _;have hcl:y.2.codes.1.length<=y.2.r.length:=by unfold Cs.codes;split;exact Nat.zero_le _;simp
 split
 ·refine qjsd hk hp (fun f h=>?_) ?_ (Nat.zero_le _)
  ·split at h
   ·exact qyj0 _ _ f h
   ·cases h
  ·split
   ·rcases hf with h|⟨_,h⟩
    ·omega
    ·exact h
   ·exact Nat.zero_le _
 ·rename_i ha;refine qjsd hk hp (fun f h=>by cases h) (Nat.zero_le _) ?_;rcases hf with h|⟨h,_⟩
  ·omega
  ·exact absurd h ha
def q3sq(w:World)(R:Pk×Nat)(e:Ending)(W:World):Prop:=
 ∃a:Ad,e=.returned (.tuple #[.agg (pkC R.1 a),.int .i64 (R.2:Nat)])/\PkAt W R.1 a/\R.1.props.length<=a.pc/\FitS R.1/\Below w.heap.size w W/\(R.2≠0->a=adZ)/\FrA w R.1 a
structure QrS(w:World)(B:Nat)(P:Pk)(a:Ad)(W:World):Prop where
 low:Below w.heap.size w W
 rs:W.heap[w.heap.size]?=some (.cells pkZ 38 (0,0))
 pk:W.heap[B]?=some (.cells (pkC P a) 38 (0,0))
 at_:PkAt W P a
theorem QrS.call{w W W':World}{B:Nat}{P:Pk}{a:Ad}(h:QrS w B P a W)(hb:Below W.heap.size W W'):QrS w B P a W':=
 ⟨qxh2 h.low hb,(hb.block _ (lt_of_block h.rs)).trans h.rs,(hb.block _ (lt_of_block h.pk)).trans h.pk,h.at_.below hb⟩
theorem qhb8{W:World}{P:Pk}{a:Ad}{b:Nat}{D:Array Value}(h:PkAt W P a)(hw:a.w=none)(ha:∀g i,a.ps=some ⟨g,i,none⟩\/a.cs=some ⟨g,i,none⟩\/a.fs=some ⟨g,i,none⟩->b<g):PkAt (W.setRow b D) P a:=by
 refine⟨h.w.kept (by simp[World.setRow]) (fun g i e _=>by rw[hw] at e;cases e),h.cs.kept (by simp[World.setRow]) (fun g i e _=>setRow_other W b g _ ?_),h.fs.kept (by simp[World.setRow]) (fun g i e _=>setRow_other W b g _ ?_),h.ps.kept (by simp[World.setRow]) (fun g i e _=>setRow_other W b g _ ?_)⟩
 ·have:=ha g i (.inr (.inl e));omega
 ·have:=ha g i (.inr (.inr e));omega
 ·have:=ha g i (.inl e);omega
theorem ql0p(v kind:Int)(s:ByteArray)(w:World)(hk:(versC v&&qfws kind)=false) :
 Calls prog 96 #[.int .i64 v,.int .i64 kind,.string s] w (q3sq w (Pk.zero,2)):=by
 have KN:=q7hd v kind;have HZ:=hid qbwp;have hzv:=qrai;have hne:¬pkZ=#[]:=by intro h;have:=qbwp;rw[h] at this;cases this
 have PZ:Hid (pkZ.all (·.oneCell')=true):=hid (qmz0 Pk.zero adZ);have R0:=hid (heap_alloc_new w (.cells pkZ 38));have RT:=hid (show q3sq w (Pk.zero,2) (.returned (.tuple #[.agg pkZ,.int .i64 ((2:Nat):Int)])) ((w.alloc (.cells pkZ 38)).setRow w.heap.size pkZ) from
  ⟨adZ,rfl,qa3p _,Nat.zero_le _,qphg,q8xz (qybm _) (Nat.le_refl _) _,fun _=>rfl,q16x w⟩)
 rw[hk] at KN;replace KN:=hid KN;clear hk;go_in;go_wp2_with fail;refine(KN.out _).mono ?_;rintro e W ⟨rfl,rfl⟩;go_wp2_with (first
  |(refine wpList_buildTo rfl 38 _ rfl (some _) rfl pkZ (by kernel_rfl) ?_)
  |(refine wpList_store_row rfl _ _ _ rfl w.heap.size pkZ rfl rfl 38 _ R0.out (by rw[HZ.out];exact q5nr) rfl PZ.out ?_))
 exact q8iy (cs:=pkZ) rfl rfl rfl rfl underlying38 rfl (by rw[HZ.out];exact q5nr) (setRow_heap _ _ _ _ _ _ R0.out) RT.out
theorem qyoi(v kind:Int)(s:ByteArray)(w:World)(hk:(versC v&&qfws kind)=true)(hk0:-9223372036854775808<=kind)(hk1:kind<=9223372036854775807)(hm:s.size<=140737488351232)(hf:FewS v kind s.data.toList) :
 Calls prog 96 #[.int .i64 v,.int .i64 kind,.string s] w (q3sq w (if (if (q4qr v kind ⟨s.data.toList,0⟩).2.e=0 then q3m2 v (q4qr v kind ⟨s.data.toList,0⟩).1 else(q4qr v kind ⟨s.data.toList,0⟩).2.e)≠0 then(Pk.zero,if (q4qr v kind ⟨s.data.toList,0⟩).2.e=0 then q3m2 v (q4qr v kind ⟨s.data.toList,0⟩).1 else(q4qr v kind ⟨s.data.toList,0⟩).2.e) else((q4qr v kind ⟨s.data.toList,0⟩).1,0))):=by
 have KN:=q7hd v kind;have HZ:=hid qbwp;have hzv:=qrai;have hne:¬pkZ=#[]:=by intro h;have:=qbwp;rw[h] at this;cases this
 have PZ:Hid (pkZ.all (·.oneCell')=true):=hid (qmz0 Pk.zero adZ);have R0:=hid (heap_alloc_new w (.cells pkZ 38));have L0:=hid (qybm (w:=w) (.cells pkZ 38));have RZ:=hid (fun(e:Nat) W (hb:Below w.heap.size w W)=>(show q3sq w (Pk.zero,e) (.returned (.tuple #[.agg pkZ,.int .i64 (e:Nat)])) (W.setRow w.heap.size pkZ) from⟨adZ,rfl,qa3p _,Nat.zero_le _,qphg,q8xz hb (Nat.le_refl _) _,fun _=>rfl,q16x w⟩));have hkd:qfws kind=true:=by rw[Bool.and_eq_true] at hk;exact hk.2
 rw[hk] at KN;replace KN:=hid KN;have hm9:s.size<=9223372036854775807:=by omega
 have RD:=fun cb W (h:CsAt W cb s ⟨s.data.toList,0⟩)=>qubv (v:=v) hkd hk0 hk1 hm9 hf h;have FI:=qzm9 ⟨hk0,hk1⟩ hf;obtain⟨⟨P,Y⟩,hz⟩:∃z,q4qr v kind ⟨s.data.toList,0⟩=z:=⟨_,rfl⟩
 rw[hz] at RD FI ⊢;simp only at RD FI ⊢;have ER:=fun cb W (h:CsAt W cb s Y)=>q3gp h;obtain⟨f,hff⟩:∃f,Y.e=f:=⟨_,rfl⟩
 rw[hff] at ER ⊢;have VA:=fun a W (h:PkAt W P a) (hc:P.props.length<=a.pc)=>qeuk v P a W h FI.2 FI.1 hc;generalize q3m2 v P=q at *;obtain⟨R,hR⟩:∃R,(if (if f=0 then q else f)≠0 then(Pk.zero,(if f=0 then q else f)) else(P,0))=R:=⟨_,rfl⟩
 rw[hR];have HR:=hid hR;have HFI:=hid FI;unfold rdS at RD;replace RD:=hid RD;replace VA:=hid VA;replace ER:=hid ER;clear hk hz hff hR FI hm hm9 hkd hf;have ZW:=hid (show(w.alloc (.cells pkZ 38)).heap.size=w.heap.size+1 by simp);go_in;go_wp2_with fail;refine(KN.out _).mono ?_;rintro e W ⟨rfl,rfl⟩;generalize w.alloc (.cells pkZ 38)=W0 at *;go_wp2_with fail;refine(q2gu s _).mono ?_;rintro e W1 ⟨rfl,hc,hb1,hz1⟩;have C1:=hid ((show CsAt W1 W0.heap.size s ⟨s.data.toList,0⟩ from⟨0,Nat.zero_le _,hc,by simp⟩).alloc (.cells #[.pointer (some ⟨W0.heap.size,0,none⟩),.int .i64 v,.int .i64 kind] 179));have L1:=hid ((qxh2 L0.out hb1).alloc (by have:=hb1.size;have:=ZW.out;omega) (.cells #[.pointer (some ⟨W0.heap.size,0,none⟩),.int .i64 v,.int .i64 kind] 179));have R1:=hid ((heap_alloc_old W1 (.cells #[.pointer (some ⟨W0.heap.size,0,none⟩),.int .i64 v,.int .i64 kind] 179) (Nat.lt_of_lt_of_le (lt_of_block R0.out) hb1.size)).trans ((hb1.block _ (lt_of_block R0.out)).trans R0.out));have X1:=hid (qq7p W1 W0.heap.size v kind);have Z1:=hid (show W1.heap.size=w.heap.size+2 by rw[hz1,ZW.out]);clear hc hb1 hz1;go_wp2_with fail;refine(RD.out _ _ C1.out).mono ?_;rintro e W2 ⟨⟨a,rfl,p1,p2,p3,p4⟩,hcy,hg⟩;have L2:=L1.out.grown hg L1.out.size (fun k e=>by have:=Option.some.inj e;have:=ZW.out;omega);have R2:=(hg.block _ (lt_of_block R1.out) (fun e=>by have:=Option.some.inj e;have:=ZW.out;omega)).trans R1.out;have X2:=(hg.block _ (lt_of_block X1.out) (fun e=>by have:=Option.some.inj e;have:=ZW.out;have:=Z1.out;omega)).trans X1.out;have hbx:Below W2.heap.size W2 ((W2.alloc (.cells pkZ 38)).setRow W2.heap.size (pkC P a)):=q8xz (qybm (w:=W2) (.cells pkZ 38)) (Nat.le_refl _) (pkC P a);have S3:QrS w W2.heap.size P a ((W2.alloc (.cells pkZ 38)).setRow W2.heap.size (pkC P a)):=
  ⟨qxh2 L2 hbx,(hbx.block _ (lt_of_block R2)).trans R2,setRow_heap _ _ _ _ _ _ (heap_alloc_new W2 _),p1.below hbx⟩
 have C3:=hcy.below hbx;have X3:=(hbx.block _ (lt_of_block X2)).trans X2;have S3:=hid S3;have CP:=hid p2;have AD:=hid (And.intro p3 (fun g i e=>(by have h1:=p4 g i e;have h2:=Z1.out;rw[World.size_alloc] at h1;omega:w.heap.size<g)));have FA:=hid (show FrA w P a by
  rintro g i (⟨_,e⟩|⟨_,e⟩|⟨_,e⟩|e)
  ·rw[AD.out.1] at e;cases e
  ·have:=AD.out.2 g i (.inr (.inl e));omega
  ·have:=AD.out.2 g i (.inr (.inr e));omega
  ·have:=AD.out.2 g i (.inl e);omega)
 have hD1:=qwmp P a;have hD2:=qmz0 P a;obtain⟨D,hD⟩:∃D,pkC P a=D:=⟨_,rfl⟩
 rw[hD] at hD1 hD2 S3 C3 X3 ⊢;have HD:=hid hD;have HD1:=hid hD1;have HD2:=hid hD2;have PKD:=hid (fun V (h:QrS w W2.heap.size P a V)=>(by rw[<-hD];exact h.pk:V.heap[W2.heap.size]?=some (.cells D 38 (0,0))));have VAa:=VA.out a;have VAa:=fun V (h:QrS w W2.heap.size P a V)=>(VAa V h.at_ CP.out).mono fun e W' hh=>(⟨hh.1,h.call hh.2⟩:_/\QrS w W2.heap.size P a W')
 rw[hD] at VAa;have VAa:=hid VAa;have FINT:=hid (fun V (h:QrS w W2.heap.size P a V)=>(show q3sq w (P,0) (.returned (.tuple #[.agg D,.int .i64 ((0:Nat):Int)])) (V.setRow w.heap.size D) from
  ⟨a,by rw[hD],qhb8 h.at_ AD.out.1 AD.out.2,CP.out,HFI.out,q8xz h.low (Nat.le_refl _) _,fun h=>absurd rfl h,FA.out⟩))
 have EC:=hid (ER.out _ _ C3);have c0:((W2.alloc (.cells pkZ 38)).setRow W2.heap.size D).cell? ⟨W1.heap.size,0,none⟩=some (.pointer (some ⟨W0.heap.size,0,none⟩)):=cell_of_row _ _ 0 _ _ _ X3;clear p1 p2 p3 p4 hg L2 R2 hbx hD1 hD2 hD VA RD hcy C3 X3 X2 C1 X1;go_wp2_with (first
  |(refine wpList_store_row rfl _ _ _ rfl W2.heap.size D rfl rfl 38 _ (heap_alloc_new W2 _) (by rw[HD1.out];exact q5nr) (by rw[HZ.out,HD1.out]) HD2.out ?_))
 refine(EC.out).mono ?_;rintro e W4 ⟨rfl,rfl⟩;clear c0;by_cases hf0:f=0
 ·subst hf0;by_cases hq:q=0
  ·subst hq;have hr:R=(P,0):=by rw[<-HR.out];simp
   subst hr;go_wp2_with (refine wpList_load_row rfl _ _ rfl W2.heap.size rfl 38 D (0,0) _ (PKD.out _ S3.out) underlying38 rfl (by rw[HD1.out];exact q5nr) ?_);refine(VAa.out _ S3.out).mono ?_;rintro e W4 ⟨rfl,hS⟩;have S4:=hid hS;have RS4:=hid hS.rs;clear hS;go_wp2_with (first
    |(refine wpList_store_row rfl _ _ _ rfl w.heap.size D rfl rfl 38 _ RS4.out (by rw[HD1.out];exact q5nr) (by rw[HZ.out,HD1.out]) HD2.out ?_)
    |(refine wpList_load_row rfl _ _ rfl W2.heap.size rfl 38 D (0,0) _ (PKD.out _ S4.out) underlying38 rfl (by rw[HD1.out];exact q5nr) ?_))
   exact q8iy (cs:=D) rfl rfl rfl rfl underlying38 rfl (by rw[HD1.out];exact q5nr) (setRow_heap _ _ _ _ _ _ RS4.out) (FINT.out _ S4.out)
  ·have hr:R=(Pk.zero,q):=by rw[<-HR.out];simp[hq]
   subst hr;have q1:((q:Int)==0)=false:=by simp;omega
   have q2:((q:Int) != 0)=true:=by simp;omega
   clear hq;go_wp2_with (refine wpList_load_row rfl _ _ rfl W2.heap.size rfl 38 D (0,0) _ (PKD.out _ S3.out) underlying38 rfl (by rw[HD1.out];exact q5nr) ?_);refine(VAa.out _ S3.out).mono ?_;rintro e W4 ⟨rfl,hS⟩;have RS4:=hid hS.rs;have RT:=hid (RZ.out q W4 hS.low);clear hS;go_wp2_with (first
    |(refine wpList_buildTo rfl 38 _ rfl (some _) rfl pkZ (by kernel_rfl) ?_)
    |(refine wpList_store_row rfl _ _ _ rfl w.heap.size pkZ rfl rfl 38 _ RS4.out (by rw[HZ.out];exact q5nr) rfl PZ.out ?_))
   exact q8iy (cs:=pkZ) rfl rfl rfl rfl underlying38 rfl (by rw[HZ.out];exact q5nr) (setRow_heap _ _ _ _ _ _ RS4.out) RT.out
 ·have hr:R=(Pk.zero,f):=by rw[<-HR.out];simp[hf0]
  subst hr;have q1:((f:Int)==0)=false:=by simp;omega
  have q2:((f:Int) != 0)=true:=by simp;omega
  have RS4:=hid S3.out.rs;have RT:=hid (RZ.out f _ S3.out.low);clear hf0;go_wp2_with (first
   |(refine wpList_buildTo rfl 38 _ rfl (some _) rfl pkZ (by kernel_rfl) ?_)
   |(refine wpList_store_row rfl _ _ _ rfl w.heap.size pkZ rfl rfl 38 _ RS4.out (by rw[HZ.out];exact q5nr) rfl PZ.out ?_))
  exact q8iy (cs:=pkZ) rfl rfl rfl rfl underlying38 rfl (by rw[HZ.out];exact q5nr) (setRow_heap _ _ _ _ _ _ RS4.out) RT.out
theorem qcqg(v kind:Int)(s:ByteArray)(w:World)(hk0:-9223372036854775808<=kind)(hk1:kind<=9223372036854775807)(hm:s.size<=140737488351232)(hf:FewS v kind s.data.toList) :
 Calls prog 96 #[.int .i64 v,.int .i64 kind,.string s] w (q3sq w (q98d v kind s.data.toList)):=by
 rw[qw0h];by_cases hk:(versC v&&qfws kind)=false
 ·rw[if_pos hk];exact ql0p v kind s w hk
 ·rw[if_neg hk];exact qyoi v kind s w (by simpa using hk) hk0 hk1 hm hf
theorem qfe2{v kind:Int}{l:List UInt8}(h:l.length<=70000):FewS v kind l:=by
 refine .inl ?_;have h1:((Cs.mk l 0).num 2).2.r.length<=l.length:=by
  unfold Cs.num Cs.take;split
  ·exact Nat.le_refl _
  ·split
   ·exact Nat.le_refl _
   ·simp
 have h2:(((Cs.mk l 0).num 2).2.props v kind).2.r.length<=((Cs.mk l 0).num 2).2.r.length:=by
  unfold Cs.props;split
  ·exact Nat.le_refl _
  ·simp
 omega
end Go.Proofs.YtefmhbioggcfaaaGreatDoor
namespace Go.Proofs.YtefmhbioggcfaaaGreatDoor
open Lib(hid)
open Proofs.Tryz
def FewM(v:Int)(l:List UInt8):Prop:=
 (qday v l).2.2=0->¬((l.length-(qday v l).2.1:Nat):Int)<(qday v l).1.length->8<=(qday v l).1.kind->(qday v l).1.kind<=11->FewS v (qday v l).1.kind ((l.drop (qday v l).2.1).take (qday v l).1.length.toNat)
theorem qp1j{v:Int}{l:List UInt8}(h:l.length<=70000):FewM v l:=fun _ _ _ _=>qfe2 (by rw[List.length_take,List.length_drop];omega)
end Go.Proofs.YtefmhbioggcfaaaGreatDoor
namespace Go.Proofs.YtefmhbioggcfaaaGreatDoor
open Lib(hid)
open Proofs.Tryz
open Go.RowKit
structure BdS(w:World)(p:Pk)(a:Ad)(b:Nat)(l:List UInt8)(W:World):Prop where
 bx:BxS w p a W
 lo:w.heap.size<b
 sb:SbAt b l W
theorem BdS.call{w W W':World}{p:Pk}{a:Ad}{b:Nat}{l:List UInt8}(h:BdS w p a b l W)(hb:Below W.heap.size W W'):BdS w p a b l W':=⟨h.bx.call hb,h.lo,h.sb.call hb⟩
theorem BdS.wrote{w W W':World}{p:Pk}{a:Ad}{b:Nat}{l m:List UInt8}(h:BdS w p a b l W)(hb:Below b W W')(hs:SbAt b m W'):BdS w p a b m W':=
 ⟨⟨h.bx.low.trans (hb.mono (Nat.le_of_lt h.lo)),(hb.block _ h.lo).trans h.bx.box⟩,h.lo,hs⟩
theorem q2gn{kind:Int}{f:Fi}(h:qecx f.topic=true):(qjk5 kind f).length<=65538:=by
 have hlt:f.topic.length<=65535:=((qbv6 _).1 h).1;unfold qjk5;rw[List.length_append,q9ic];split
 ·simp;omega
 ·simp;omega
theorem q12b{kind:Int}:∀{l:List Fi},(∀f∈l,qecx f.topic=true)->(l.flatMap (qjk5 kind)).length<=l.length*65538
 |[],_=>Nat.le_refl _
 |f::l,h=>by have h1:=q2gn (kind:=kind) (h f (List.mem_cons_self ..));have h2:=q12b (kind:=kind) (l:=l) (fun g hg=>h g (List.mem_cons_of_mem _ hg));rw[List.flatMap_cons,List.length_append,List.length_cons];omega
theorem qki5{α:Type}{l:List α}{k:Nat}{x:α}(h:l[k]?=some x):l.take (k+1)=l.take k++[x]:=by obtain⟨hk,hx⟩:=List.getElem?_eq_some_iff.1 h;rw[List.take_succ_eq_append_getElem hk,hx]
theorem q72b(v:Int)(p:Pk)(a:Ad)(w:World)(hp:PkAt w p a)(sp:q21o p)(ok:PkOk p)(hc:p.props.length<=a.pc)(hv:q3m2 v p≠0) :
 Calls prog 95 #[.int .i64 v,.agg (pkC p a)] w fun e w'=>e=.returned (.tuple #[.string ⟨#[]⟩,.int .i64 (q3m2 v p:Nat)])/\Below w.heap.size w w':=by
 have S0:=hid (BxS.made w p a);have C1:=hid (qwmp p a);have VA:=fun W (h:BxS w p a W)=>(qeuk v p a W (hp.below h.low) sp ok hc).mono fun e W' hh=>(⟨hh.1,h.call hh.2⟩:_/\BxS w p a W')
 generalize q3m2 v p=R at *;have hr1:((R:Int)==0)=false:=by simp;omega
 have hr2:((R:Int) != 0)=true:=by simp;omega
 replace VA:=hid VA;clear hv hp sp ok hc;go_in;go_wp2_with (refine wpList_load_row rfl _ _ rfl w.heap.size rfl 38 _ (0,0) _ S0.out.box underlying38 rfl (by rw[C1.out];exact q5nr) ?_);refine(VA.out _ S0.out).mono ?_;rintro e W ⟨rfl,hb⟩;have LO:=hid hb.low;clear hb;go_wp2
 go_ret2
 exact⟨rfl,LO.out⟩
theorem qns4(v:Int)(p:Pk)(a:Ad)(w:World)(hp:PkAt w p a)(sp:q21o p)(ok:PkOk p)(hc:p.props.length<=a.pc)(hv:q3m2 v p=0) :
 Calls prog 95 #[.int .i64 v,.agg (pkC p a)] w fun e w'=>e=.returned (.tuple #[.string (bs (rawS v p)),.int .i64 0])/\Below w.heap.size w w':=by
 have S0:=hid (BxS.made w p a);have C1:=hid (qwmp p a);have VA:=fun W (h:BxS w p a W)=>(qeuk v p a W (hp.below h.low) sp ok hc).mono fun e W' hh=>(⟨hh.1,h.call hh.2⟩:_/\BxS w p a W')
 rw[hv] at VA;obtain⟨ho,hr,hfE,hcE⟩:=q87v hv;obtain⟨h45,hk,hu,hi,h4,-⟩:=ok_s ho;have lt:=qp2i hr;have PR:=fun W (h:BxS w p a W)=>qhoa v p a W (hp.below h.low).ps ok hc;have hfv:∀f∈p.filters,qecx f.topic=true:=fun f hf=>qme0 (q267 hfE f hf).1;have hkk:p.filters≠[]->p.kind=8\/p.kind=10:=fun hne=>by
  rcases q9zy hk with ⟨_,h⟩|⟨ha,_⟩
  ·exact h
  ·exact absurd ((qmqi hu).2 ha) hne
 have FB:=fun f (hf:f∈p.filters) W=>qpa5 p.kind f W (hkk (List.ne_nil_of_mem hf)) (hfv f hf);have fl:=fun k=>q12b (kind:=p.kind) (l:=p.filters.take k) (fun f hf=>hfv f (List.mem_of_mem_take hf));have hcr:∀c∈p.codes,0<=c/\c<163:=fun c hm=>qzk9 (q6r9 hcE c hm);obtain⟨n,hn⟩:∃n:Nat,p.id=n:=⟨p.id.toNat,by omega⟩
 have hn2:(n:Int)<65536:=by omega
 have PU:=fun W=>qe3g n 2 W (by omega);rw[show(min (2:Int) 16).toNat=2 from rfl] at PU;have K0:∀W,BxS w p a W->W.cell? ⟨w.heap.size,0,none⟩=some (.int .i64 p.kind):=fun W h=>h.cell 0;have K4:∀W,BxS w p a W->W.cell? ⟨w.heap.size,4,none⟩=some (.int .i64 p.id):=fun W h=>h.cell 4;have K22:∀W,BxS w p a W->W.cell? ⟨w.heap.size,22,none⟩=some (.slice a.cs p.codes.length a.cc):=fun W h=>h.cell 22;have K23:∀W,BxS w p a W->W.cell? ⟨w.heap.size,23,none⟩=some (.slice a.fs p.filters.length a.fc):=fun W h=>h.cell 23;rw[hn] at K4;have hraw:rawS v p=be n 2++(tailC v p.kind p.props++(p.filters.flatMap (qjk5 p.kind)++q56c p.codes)):=by unfold rawS;rw[hn,Int.toNat_natCast]
 rw[hraw];have hb2:(be n 2).length=2:=q0rl _ _;obtain⟨X,hX⟩:∃X,be n 2=X:=⟨_,rfl⟩
 rw[hX] at PU hb2 ⊢;obtain⟨T,hT⟩:∃T,tailC v p.kind p.props=T:=⟨_,rfl⟩
 rw[hT] at PR lt ⊢;have HFS:=hid hp.fs;have HCS:=hid hp.cs;obtain⟨l,hl⟩:∃l,p.filters=l:=⟨_,rfl⟩
 obtain⟨m,hm⟩:∃m,p.codes=m:=⟨_,rfl⟩
 have s1:=sp.1;have s2:=sp.2.1;rw[hl] at FB fl K23 HFS s2 ⊢;rw[hm] at hcr K22 HCS s1 ⊢;obtain⟨nl,hnl⟩:∃n,l.length=n:=⟨_,rfl⟩
 obtain⟨nm,hnm⟩:∃n,m.length=n:=⟨_,rfl⟩
 rw[hnl] at K23 s2;rw[hnm] at K22 s1;have LB:∀k j:Nat,k<=nl->j<=nm->(X++T++(l.take k).flatMap (qjk5 p.kind)++q56c (m.take j)).length<=140000000000:=fun k j hk hj=>by
  have h1:=fl k;rw[List.length_take] at h1;have h3:(q56c (m.take j)).length<=j:=by unfold q56c;rw[List.length_map,List.length_take];exact Nat.min_le_left _ _
  simp only[List.length_append,hb2]
  have:min k l.length<=70000:=by omega
  omega
 replace LB:=hid LB;replace VA:=hid VA;replace PR:=hid PR;replace FB:=hid FB;replace PU:=hid PU;replace K0:=hid K0;replace K4:=hid K4;replace K22:=hid K22;replace K23:=hid K23;replace hcr:=hid hcr;have HN:=hid (show(n:Int)<65536/\X.length=2/\T.length<=300000000 from⟨hn2,hb2,lt⟩);have HL:=hid (And.intro hnl hnm);have q0:(nl:Int)<=70000:=by omega
 have q1:(nm:Int)<=70000:=by omega
 clear hv ho hr hfE hcE h45 hk hu hi h4 lt hfv hkk fl hn hn2 hraw hb2 hX hT hl hm s1 s2 hnl hnm hp sp ok hc;generalize p.kind=kind at *;generalize a.fs=A at *;generalize a.fc=fc at *;generalize a.cs=C at *;generalize a.cc=cc at *;go_in;go_wp2_with (refine wpList_load_row rfl _ _ rfl w.heap.size rfl 38 _ (0,0) _ S0.out.box underlying38 rfl (by rw[C1.out];exact q5nr) ?_);refine(VA.out _ S0.out).mono ?_;rintro e W ⟨rfl,hb⟩;have D1:=hid (show BdS w p a W.heap.size [] (W.alloc (.cells #[.pointer none,.slice none 0 0] 172)) from⟨hb.call ((Below.refl _ _).alloc (Nat.le_refl _) _),lt_of_block hb.box,SbAt.made W⟩);have k4:=K4.out _ D1.out.bx;have hn2:=HN.out.1;clear hb S0 VA;go_wp2_with fail;refine(PU.out _).mono ?_;rintro e W2 ⟨rfl,hb⟩;have D2:=hid (D1.out.call hb);clear hb D1 k4 hn2;generalize W.heap.size=B at *;go_wp2_with fail;refine(q6cc B [] X W2 D2.out.sb (by have:=HN.out.2.1;simp;omega)).mono ?_;rintro e W3 ⟨rfl,hs,hb⟩;have D3:=hid (D2.out.wrote hb hs);clear hs hb D2;go_wp2_with (refine wpList_load_row rfl _ _ rfl w.heap.size rfl 38 _ (0,0) _ D3.out.bx.box underlying38 rfl (by rw[C1.out];exact q5nr) ?_);refine(PR.out _ D3.out.bx).mono ?_;rintro e W4 ⟨rfl,hb⟩;have D4:=hid (D3.out.call hb);clear hb D3;go_wp2_with fail;refine(q6cc B ([]++X) T W4 D4.out.sb (by have:=HN.out.2.1;have:=HN.out.2.2;simp;omega)).mono ?_;rintro e W5 ⟨rfl,hs,hb⟩;have D5:=hid (show BdS w p a B (X++T++(l.take 0).flatMap (qjk5 kind)++q56c (m.take 0)) W5 by
  have:=D4.out.wrote hb hs
  simpa [q56c] using this)
 have k23:=K23.out _ D5.out.bx;clear hs hb D4;go_wp2_with fail;clear k23
 go_loopg [30] nl (fun gk s30 wx=>∃k:Nat,k<=nl/\gk=nl-k/\s30=.int .i64 (k:Int)/\BdS w p a B (X++T++(l.take k).flatMap (qjk5 kind)++q56c (m.take 0)) wx)
 case atStart=>exact⟨0,Nat.zero_le _,rfl,rfl,D5.out⟩
 case round=>
  obtain⟨k,hk,rfl,rfl,hS⟩:=hrel;have DK:=hid hS;by_cases hlt:k<nl
  ·have hkl:k<l.length:=by rw[HL.out.1];exact hlt
   obtain⟨f,hp⟩:∃f,l[k]?=some f:=⟨_,List.getElem?_eq_getElem hkl⟩
   obtain⟨ga,ia,rfl,_,a0,a1,a2,a3,a4⟩:=(HFS.out.below hS.bx.low).fi hp;have FI:=FB.out f (List.mem_of_getElem? hp);have hts:=qki5 hp;have hacc:X++T++(l.take k).flatMap (qjk5 kind)++q56c (m.take 0)++qjk5 kind f=X++T++(l.take (k+1)).flatMap (qjk5 kind)++q56c (m.take 0):=by rw[hts];simp[q56c]
   have hbd:=LB.out (k+1) 0 (by omega) (Nat.zero_le _);rw[<-hacc,List.length_append] at hbd;have HA:=hid (And.intro hacc hbd);have L:=hid hlt;have g1:(k:Int)<(nl:Int):=by omega
   unfold fiC at FI;obtain⟨M,hM⟩:∃M,qjk5 kind f=M:=⟨_,rfl⟩
   rw[hM] at FI HA;replace FI:=hid FI;generalize bs f.topic=x0 at *;generalize f.qos=x1 at *;generalize f.noLocal=x2 at *;generalize f.asPub=x3 at *;generalize f.handling=x4 at *;have H5:=hid (show #[Value.string x0,.int .i64 x1,.bool x2,.bool x3,.int .i64 x4].size=5 from rfl);have S1:=hid (DK.out.call ((Below.refl _ _).alloc (Nat.le_refl _) (.cells #[.string x0,.int .i64 x1,.bool x2,.bool x3,.int .i64 x4] 78)));have k0:=K0.out _ S1.out.bx;have G2:=hid (heap_alloc_new wr (.cells #[.string x0,.int .i64 x1,.bool x2,.bool x3,.int .i64 x4] 78));clear hts hacc hbd hkl hp hS hlt hk hM;go_wp2_with (refine wpList_load_row rfl _ _ rfl wr.heap.size rfl 78 _ (0,0) _ G2.out underlying78 rfl (by rw[H5.out];exact qhg6) ?_);refine(FI.out _).mono ?_;rintro e W6 ⟨rfl,hb⟩;have S2:=hid (S1.out.call hb);clear hb k0;go_wp2_with fail;refine(q6cc B _ M W6 S2.out.sb (by have:=HA.out.2;omega)).mono ?_;rintro e W7 ⟨rfl,hs,hb⟩;have S3:=hid (show BdS w p a B (X++T++(l.take (k+1)).flatMap (qjk5 kind)++q56c (m.take 0)) W7 from HA.out.1▸S2.out.wrote hb hs);clear hs hb;go_wp2_with fail
   go_roundg (nl-(k+1))
   case measure=>have:=L.out;omega
   case rel=>exact⟨k+1,by have:=L.out;omega,rfl,by go_num,S3.out⟩
  ·obtain rfl:k=nl:=by omega
   have k22:=K22.out _ hS.bx;clear hS hlt hk D5;go_wp2_with fail;clear k22
   go_loopg [43] nm (fun gk s43 wx=>∃j:Nat,j<=nm/\gk=nm-j/\s43=.int .i64 (j:Int)/\BdS w p a B (X++T++(l.take k).flatMap (qjk5 kind)++q56c (m.take j)) wx)
   case atStart=>exact⟨0,Nat.zero_le _,rfl,rfl,DK.out⟩
   case round=>
    obtain⟨j,hj,rfl,rfl,hS⟩:=hrel;have DJ:=hid hS;by_cases hlt:j<nm
    ·have hjl:j<m.length:=by rw[HL.out.2];exact hlt
     obtain⟨z,hp⟩:∃z,m[j]?=some z:=⟨_,List.getElem?_eq_getElem hjl⟩
     obtain⟨ga,ia,rfl,_,a0⟩:=(HCS.out.below hS.bx.low).int hp;have hz:=hcr.out z (List.mem_of_getElem? hp);obtain⟨c,rfl⟩:=Int.eq_ofNat_of_zero_le hz.1;have hts:=qki5 hp;have hacc:X++T++(l.take k).flatMap (qjk5 kind)++q56c (m.take j)++[UInt8.ofNat c]=X++T++(l.take k).flatMap (qjk5 kind)++q56c (m.take (j+1)):=by rw[hts];simp[q56c]
     have hbd:=LB.out k (j+1) (Nat.le_refl _) (by omega);rw[<-hacc,List.length_append] at hbd;have HA:=hid (And.intro hacc hbd);have P1:=fun W=>qe3g c 1 W (by omega);have ho:be c ((min (1:Int) 16).toNat)=[UInt8.ofNat c]:=by show be c 1=_;exact qwu8 _
     rw[ho] at P1;replace P1:=hid P1;have L:=hid hlt;have g1:(j:Int)<(nm:Int):=by omega
     have g2:(c:Int)<65536:=by omega
     clear hts hacc hbd hjl hp hS hlt hj hz ho;go_wp2_with fail;refine(P1.out _).mono ?_;rintro e W6 ⟨rfl,hb⟩;have S2:=hid (DJ.out.call hb);clear hb g2;go_wp2_with fail;refine(q6cc B _ _ W6 S2.out.sb (by have:=HA.out.2;omega)).mono ?_;rintro e W7 ⟨rfl,hs,hb⟩;have S3:=hid (show BdS w p a B (X++T++(l.take k).flatMap (qjk5 kind)++q56c (m.take (j+1))) W7 from HA.out.1▸S2.out.wrote hb hs);clear hs hb;go_wp2_with fail
     go_roundg (nm-(j+1))
     case measure=>have:=L.out;omega
     case rel=>exact⟨j+1,by have:=L.out;omega,rfl,by go_num,S3.out⟩
    ·obtain rfl:j=nm:=by omega
     have hfin:X++T++(l.take k).flatMap (qjk5 kind)++q56c (m.take j)=X++(T++(l.flatMap (qjk5 kind)++q56c m)):=by rw[List.take_of_length_le (by rw[HL.out.1];exact Nat.le_refl _),List.take_of_length_le (by rw[HL.out.2];exact Nat.le_refl _)];simp
     rw[hfin] at hS;have D9:=hid hS;clear hS hlt hj hfin;go_wp2_with fail;refine(q0vh B _ _ D9.out.sb).mono ?_;rintro e W8 ⟨rfl,hb⟩;have L9:=hid (D9.out.bx.low.trans (hb.mono (Nat.le_of_lt D9.out.lo)));clear hb;go_wp2
     go_ret2
     exact⟨rfl,L9.out⟩
theorem q7zk(v:Int)(p:Pk)(a:Ad)(w:World)(hp:PkAt w p a)(sp:q21o p)(ok:PkOk p)(hc:p.props.length<=a.pc) :
 Calls prog 95 #[.int .i64 v,.agg (pkC p a)] w fun e w'=>e=.returned (.tuple #[.string (bs (qktk v p).1),.int .i64 ((qktk v p).2:Nat)])/\Below w.heap.size w w':=by
 unfold qktk;by_cases hv:q3m2 v p=0
 ·rw[if_neg (by simpa using hv)];exact qns4 v p a w hp sp ok hc hv
 ·rw[if_pos hv];exact q72b v p a w hp sp ok hc hv
end Go.Proofs.YtefmhbioggcfaaaGreatDoor
