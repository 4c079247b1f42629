/- The contract of subscribe.Read. Condition: the bytes are no more than memory holds; at most 70,000 filters or codes. -/
import Derived.Test.YtefmhbioggcfaaaGreatDoorK33
import Derived.Test.YtefmhbioggcfaaaGreatDoorK39
set_option maxRecDepth 100000
set_option maxHeartbeats 4000000
namespace Go.Proofs.YtefmhbioggcfaaaGreatDoor
open Lib(hid)
open Proofs.Tryz
open Go.RowKit
def FitS(p:Pk):Prop:=PkOk p/\q21o p
theorem q75u(x:Cs):x.text.1.length<=65535:=by
 unfold Cs.text;split
 ·exact Nat.zero_le _
 ·exact(qslt _).2
theorem qt61(x:Cs)(v kind:Int):(x.filt v kind).1.topic.length<=65535:=by
 unfold Cs.filt;simp only;split
 ·exact q75u x
 ·exact q75u x
theorem qyj0{v kind:Int}:∀(n:Nat) (x:Cs),∀f∈(Cs.filts v kind n x).1,f.topic.length<=65535
 |0,_,f,h=>by cases h
 |n+1,x,f,h=>by
  unfold Cs.filts at h;split at h
  ·cases h
  ·rcases List.mem_cons.1 h with rfl|h
   ·exact qt61 x v kind
   ·exact qyj0 n _ f h
theorem qjsd{kind:Int}{i:Nat}{l:List Pr}{m:List Fi}{c:List Int}(hk:-9223372036854775808<=kind/\kind<=9223372036854775807)(hl:(∀p∈l,PrOk p/\p.text.length<=65535/\p.value.length<=65535)/\l.length<=1000)(hm:∀f∈m,f.topic.length<=65535)(hml:m.length<=70000)(hc:c.length<=70000) :
 FitS {Pk.zero with kind:=kind,id:=(i:Nat),props:=l,filters:=m,codes:=c}:=by
 refine⟨⟨hk,by show _<=(0:Int)/\(0:Int)<=_;decide,fun t ht=>?_,fun x hx=>(nomatch hx),fun x hx=>?_,fun x hx=>Nat.le_trans (hm x hx) (by decide)⟩,hc,hml,Nat.le_trans hl.2 (by decide),Nat.zero_le _⟩
 ·have:t=[]:=by simpa [Pk.texts,Pk.zero] using ht
  rw[this];decide
 ·obtain⟨h1,h2,h3⟩:=hl.1 x hx;exact⟨h1,by omega,by omega⟩
theorem qphg:FitS Pk.zero:=by
 have:=qjsd (kind:=0) (i:=0) (l:=[]) (m:=[]) (c:=[]) (by decide) ⟨fun p hp=>(nomatch hp),Nat.zero_le _⟩ (fun p hp=>(nomatch hp)) (Nat.zero_le _) (Nat.zero_le _)
 exact this
def FewS(v kind:Int)(l:List UInt8):Prop:=((((Cs.mk l 0).num 2).2.props v kind).2.r.length<=70000\/(qsfj kind=true/\(Cs.filtsW v kind (((Cs.mk l 0).num 2).2.props v kind).2).1.length<=70000))
theorem qzm9{v kind:Int}{l:List UInt8}(hk:-9223372036854775808<=kind/\kind<=9223372036854775807)(hf:FewS v kind l):FitS (q4qr v kind ⟨l,0⟩).1:=by
 have hp:=q5pm ((Cs.mk l 0).num 2).2 v kind;have hz:=q0qi ⟨l,0⟩;unfold FewS at hf;unfold q4qr;simp only;generalize ((Cs.mk l 0).num 2).1=i at *;generalize ((Cs.mk l 0).num 2).2.props v kind=y at *;have hlen:(Cs.filtsW v kind y.2).1.length<=y.2.r.length:=q8jt _ _;have hcl:y.2.codes.1.length<=y.2.r.length:=by unfold Cs.codes;split;exact Nat.zero_le _;simp
 split
 ·refine qjsd hk hp (fun f h=>?_) ?_ (Nat.zero_le _)
  ·split at h
   ·exact qyj0 _ _ f h
   ·cases h
  ·split
   ·rcases hf with h|⟨_,h⟩
    ·omega
    ·exact h
   ·exact Nat.zero_le _
 ·rename_i ha;refine qjsd hk hp (fun f h=>by cases h) (Nat.zero_le _) ?_;rcases hf with h|⟨h,_⟩
  ·omega
  ·exact absurd h ha
def q3sq(w:World)(R:Pk×Nat)(e:Ending)(W:World):Prop:=
 ∃a:Ad,e=.returned (.tuple #[.agg (pkC R.1 a),.int .i64 (R.2:Nat)])/\PkAt W R.1 a/\R.1.props.length<=a.pc/\FitS R.1/\Below w.heap.size w W/\(R.2≠0->a=adZ)/\FrA w R.1 a
structure QrS(w:World)(B:Nat)(P:Pk)(a:Ad)(W:World):Prop where
 low:Below w.heap.size w W
 rs:W.heap[w.heap.size]?=some (.cells pkZ 38 (0,0))
 pk:W.heap[B]?=some (.cells (pkC P a) 38 (0,0))
 at_:PkAt W P a
theorem QrS.call{w W W':World}{B:Nat}{P:Pk}{a:Ad}(h:QrS w B P a W)(hb:Below W.heap.size W W'):QrS w B P a W':=
 ⟨qxh2 h.low hb,(hb.block _ (lt_of_block h.rs)).trans h.rs,(hb.block _ (lt_of_block h.pk)).trans h.pk,h.at_.below hb⟩
theorem qhb8{W:World}{P:Pk}{a:Ad}{b:Nat}{D:Array Value}(h:PkAt W P a)(hw:a.w=none)(ha:∀g i,a.ps=some ⟨g,i,none⟩\/a.cs=some ⟨g,i,none⟩\/a.fs=some ⟨g,i,none⟩->b<g):PkAt (W.setRow b D) P a:=by
 refine⟨h.w.kept (by simp[World.setRow]) (fun g i e _=>by rw[hw] at e;cases e),h.cs.kept (by simp[World.setRow]) (fun g i e _=>setRow_other W b g _ ?_),h.fs.kept (by simp[World.setRow]) (fun g i e _=>setRow_other W b g _ ?_),h.ps.kept (by simp[World.setRow]) (fun g i e _=>setRow_other W b g _ ?_)⟩
 ·have:=ha g i (.inr (.inl e));omega
 ·have:=ha g i (.inr (.inr e));omega
 ·have:=ha g i (.inl e);omega
theorem ql0p(v kind:Int)(s:ByteArray)(w:World)(hk:(versC v&&qfws kind)=false) :
 Calls prog 96 #[.int .i64 v,.int .i64 kind,.string s] w (q3sq w (Pk.zero,2)):=by
 have KN:=q7hd v kind;have HZ:=hid qbwp;have hzv:=qrai;have hne:¬pkZ=#[]:=by intro h;have:=qbwp;rw[h] at this;cases this
 have PZ:Hid (pkZ.all (·.oneCell')=true):=hid (qmz0 Pk.zero adZ);have R0:=hid (heap_alloc_new w (.cells pkZ 38));have RT:=hid (show q3sq w (Pk.zero,2) (.returned (.tuple #[.agg pkZ,.int .i64 ((2:Nat):Int)])) ((w.alloc (.cells pkZ 38)).setRow w.heap.size pkZ) from
  ⟨adZ,rfl,qa3p _,Nat.zero_le _,qphg,q8xz (qybm _) (Nat.le_refl _) _,fun _=>rfl,q16x w⟩)
 rw[hk] at KN;replace KN:=hid KN;clear hk;go_in;go_wp2_with fail;refine(KN.out _).mono ?_;rintro e W ⟨rfl,rfl⟩;go_wp2_with (first
  |(refine wpList_buildTo rfl 38 _ rfl (some _) rfl pkZ (by kernel_rfl) ?_)
  |(refine wpList_store_row rfl _ _ _ rfl w.heap.size pkZ rfl rfl 38 _ R0.out (by rw[HZ.out];exact q5nr) rfl PZ.out ?_))
 exact q8iy (cs:=pkZ) rfl rfl rfl rfl underlying38 rfl (by rw[HZ.out];exact q5nr) (setRow_heap _ _ _ _ _ _ R0.out) RT.out
theorem qyoi(v kind:Int)(s:ByteArray)(w:World)(hk:(versC v&&qfws kind)=true)(hk0:-9223372036854775808<=kind)(hk1:kind<=9223372036854775807)(hm:s.size<=140737488351232)(hf:FewS v kind s.data.toList) :
 Calls prog 96 #[.int .i64 v,.int .i64 kind,.string s] w (q3sq w (if (if (q4qr v kind ⟨s.data.toList,0⟩).2.e=0 then q3m2 v (q4qr v kind ⟨s.data.toList,0⟩).1 else(q4qr v kind ⟨s.data.toList,0⟩).2.e)≠0 then(Pk.zero,if (q4qr v kind ⟨s.data.toList,0⟩).2.e=0 then q3m2 v (q4qr v kind ⟨s.data.toList,0⟩).1 else(q4qr v kind ⟨s.data.toList,0⟩).2.e) else((q4qr v kind ⟨s.data.toList,0⟩).1,0))):=by
 have KN:=q7hd v kind;have HZ:=hid qbwp;have hzv:=qrai;have hne:¬pkZ=#[]:=by intro h;have:=qbwp;rw[h] at this;cases this
 have PZ:Hid (pkZ.all (·.oneCell')=true):=hid (qmz0 Pk.zero adZ);have R0:=hid (heap_alloc_new w (.cells pkZ 38));have L0:=hid (qybm (w:=w) (.cells pkZ 38));have RZ:=hid (fun(e:Nat) W (hb:Below w.heap.size w W)=>(show q3sq w (Pk.zero,e) (.returned (.tuple #[.agg pkZ,.int .i64 (e:Nat)])) (W.setRow w.heap.size pkZ) from⟨adZ,rfl,qa3p _,Nat.zero_le _,qphg,q8xz hb (Nat.le_refl _) _,fun _=>rfl,q16x w⟩));have hkd:qfws kind=true:=by rw[Bool.and_eq_true] at hk;exact hk.2
 rw[hk] at KN;replace KN:=hid KN;have hm9:s.size<=9223372036854775807:=by omega
 have RD:=fun cb W (h:CsAt W cb s ⟨s.data.toList,0⟩)=>qubv (v:=v) hkd hk0 hk1 hm9 hf h;have FI:=qzm9 ⟨hk0,hk1⟩ hf;obtain⟨⟨P,Y⟩,hz⟩:∃z,q4qr v kind ⟨s.data.toList,0⟩=z:=⟨_,rfl⟩
 rw[hz] at RD FI ⊢;simp only at RD FI ⊢;have ER:=fun cb W (h:CsAt W cb s Y)=>q3gp h;obtain⟨f,hff⟩:∃f,Y.e=f:=⟨_,rfl⟩
 rw[hff] at ER ⊢;have VA:=fun a W (h:PkAt W P a) (hc:P.props.length<=a.pc)=>qeuk v P a W h FI.2 FI.1 hc;generalize q3m2 v P=q at *;obtain⟨R,hR⟩:∃R,(if (if f=0 then q else f)≠0 then(Pk.zero,(if f=0 then q else f)) else(P,0))=R:=⟨_,rfl⟩
 rw[hR];have HR:=hid hR;have HFI:=hid FI;unfold rdS at RD;replace RD:=hid RD;replace VA:=hid VA;replace ER:=hid ER;clear hk hz hff hR FI hm hm9 hkd hf;have ZW:=hid (show(w.alloc (.cells pkZ 38)).heap.size=w.heap.size+1 by simp);go_in;go_wp2_with fail;refine(KN.out _).mono ?_;rintro e W ⟨rfl,rfl⟩;generalize w.alloc (.cells pkZ 38)=W0 at *;go_wp2_with fail;refine(q2gu s _).mono ?_;rintro e W1 ⟨rfl,hc,hb1,hz1⟩;have C1:=hid ((show CsAt W1 W0.heap.size s ⟨s.data.toList,0⟩ from⟨0,Nat.zero_le _,hc,by simp⟩).alloc (.cells #[.pointer (some ⟨W0.heap.size,0,none⟩),.int .i64 v,.int .i64 kind] 179));have L1:=hid ((qxh2 L0.out hb1).alloc (by have:=hb1.size;have:=ZW.out;omega) (.cells #[.pointer (some ⟨W0.heap.size,0,none⟩),.int .i64 v,.int .i64 kind] 179));have R1:=hid ((heap_alloc_old W1 (.cells #[.pointer (some ⟨W0.heap.size,0,none⟩),.int .i64 v,.int .i64 kind] 179) (Nat.lt_of_lt_of_le (lt_of_block R0.out) hb1.size)).trans ((hb1.block _ (lt_of_block R0.out)).trans R0.out));have X1:=hid (qq7p W1 W0.heap.size v kind);have Z1:=hid (show W1.heap.size=w.heap.size+2 by rw[hz1,ZW.out]);clear hc hb1 hz1;go_wp2_with fail;refine(RD.out _ _ C1.out).mono ?_;rintro e W2 ⟨⟨a,rfl,p1,p2,p3,p4⟩,hcy,hg⟩;have L2:=L1.out.grown hg L1.out.size (fun k e=>by have:=Option.some.inj e;have:=ZW.out;omega);have R2:=(hg.block _ (lt_of_block R1.out) (fun e=>by have:=Option.some.inj e;have:=ZW.out;omega)).trans R1.out;have X2:=(hg.block _ (lt_of_block X1.out) (fun e=>by have:=Option.some.inj e;have:=ZW.out;have:=Z1.out;omega)).trans X1.out;have hbx:Below W2.heap.size W2 ((W2.alloc (.cells pkZ 38)).setRow W2.heap.size (pkC P a)):=q8xz (qybm (w:=W2) (.cells pkZ 38)) (Nat.le_refl _) (pkC P a);have S3:QrS w W2.heap.size P a ((W2.alloc (.cells pkZ 38)).setRow W2.heap.size (pkC P a)):=
  ⟨qxh2 L2 hbx,(hbx.block _ (lt_of_block R2)).trans R2,setRow_heap _ _ _ _ _ _ (heap_alloc_new W2 _),p1.below hbx⟩
 have C3:=hcy.below hbx;have X3:=(hbx.block _ (lt_of_block X2)).trans X2;have S3:=hid S3;have CP:=hid p2;have AD:=hid (And.intro p3 (fun g i e=>(by have h1:=p4 g i e;have h2:=Z1.out;rw[World.size_alloc] at h1;omega:w.heap.size<g)));have FA:=hid (show FrA w P a by
  rintro g i (⟨_,e⟩|⟨_,e⟩|⟨_,e⟩|e)
  ·rw[AD.out.1] at e;cases e
  ·have:=AD.out.2 g i (.inr (.inl e));omega
  ·have:=AD.out.2 g i (.inr (.inr e));omega
  ·have:=AD.out.2 g i (.inl e);omega)
 have hD1:=qwmp P a;have hD2:=qmz0 P a;obtain⟨D,hD⟩:∃D,pkC P a=D:=⟨_,rfl⟩
 rw[hD] at hD1 hD2 S3 C3 X3 ⊢;have HD:=hid hD;have HD1:=hid hD1;have HD2:=hid hD2;have PKD:=hid (fun V (h:QrS w W2.heap.size P a V)=>(by rw[<-hD];exact h.pk:V.heap[W2.heap.size]?=some (.cells D 38 (0,0))));have VAa:=VA.out a;have VAa:=fun V (h:QrS w W2.heap.size P a V)=>(VAa V h.at_ CP.out).mono fun e W' hh=>(⟨hh.1,h.call hh.2⟩:_/\QrS w W2.heap.size P a W')
 rw[hD] at VAa;have VAa:=hid VAa;have FINT:=hid (fun V (h:QrS w W2.heap.size P a V)=>(show q3sq w (P,0) (.returned (.tuple #[.agg D,.int .i64 ((0:Nat):Int)])) (V.setRow w.heap.size D) from
  ⟨a,by rw[hD],qhb8 h.at_ AD.out.1 AD.out.2,CP.out,HFI.out,q8xz h.low (Nat.le_refl _) _,fun h=>absurd rfl h,FA.out⟩))
 have EC:=hid (ER.out _ _ C3);have c0:((W2.alloc (.cells pkZ 38)).setRow W2.heap.size D).cell? ⟨W1.heap.size,0,none⟩=some (.pointer (some ⟨W0.heap.size,0,none⟩)):=cell_of_row _ _ 0 _ _ _ X3;clear p1 p2 p3 p4 hg L2 R2 hbx hD1 hD2 hD VA RD hcy C3 X3 X2 C1 X1;go_wp2_with (first
  |(refine wpList_store_row rfl _ _ _ rfl W2.heap.size D rfl rfl 38 _ (heap_alloc_new W2 _) (by rw[HD1.out];exact q5nr) (by rw[HZ.out,HD1.out]) HD2.out ?_))
 refine(EC.out).mono ?_;rintro e W4 ⟨rfl,rfl⟩;clear c0;by_cases hf0:f=0
 ·subst hf0;by_cases hq:q=0
  ·subst hq;have hr:R=(P,0):=by rw[<-HR.out];simp
   subst hr;go_wp2_with (refine wpList_load_row rfl _ _ rfl W2.heap.size rfl 38 D (0,0) _ (PKD.out _ S3.out) underlying38 rfl (by rw[HD1.out];exact q5nr) ?_);refine(VAa.out _ S3.out).mono ?_;rintro e W4 ⟨rfl,hS⟩;have S4:=hid hS;have RS4:=hid hS.rs;clear hS;go_wp2_with (first
    |(refine wpList_store_row rfl _ _ _ rfl w.heap.size D rfl rfl 38 _ RS4.out (by rw[HD1.out];exact q5nr) (by rw[HZ.out,HD1.out]) HD2.out ?_)
    |(refine wpList_load_row rfl _ _ rfl W2.heap.size rfl 38 D (0,0) _ (PKD.out _ S4.out) underlying38 rfl (by rw[HD1.out];exact q5nr) ?_))
   exact q8iy (cs:=D) rfl rfl rfl rfl underlying38 rfl (by rw[HD1.out];exact q5nr) (setRow_heap _ _ _ _ _ _ RS4.out) (FINT.out _ S4.out)
  ·have hr:R=(Pk.zero,q):=by rw[<-HR.out];simp[hq]
   subst hr;have q1:((q:Int)==0)=false:=by simp;omega
   have q2:((q:Int) != 0)=true:=by simp;omega
   clear hq;go_wp2_with (refine wpList_load_row rfl _ _ rfl W2.heap.size rfl 38 D (0,0) _ (PKD.out _ S3.out) underlying38 rfl (by rw[HD1.out];exact q5nr) ?_);refine(VAa.out _ S3.out).mono ?_;rintro e W4 ⟨rfl,hS⟩;have RS4:=hid hS.rs;have RT:=hid (RZ.out q W4 hS.low);clear hS;go_wp2_with (first
    |(refine wpList_buildTo rfl 38 _ rfl (some _) rfl pkZ (by kernel_rfl) ?_)
    |(refine wpList_store_row rfl _ _ _ rfl w.heap.size pkZ rfl rfl 38 _ RS4.out (by rw[HZ.out];exact q5nr) rfl PZ.out ?_))
   exact q8iy (cs:=pkZ) rfl rfl rfl rfl underlying38 rfl (by rw[HZ.out];exact q5nr) (setRow_heap _ _ _ _ _ _ RS4.out) RT.out
 ·have hr:R=(Pk.zero,f):=by rw[<-HR.out];simp[hf0]
  subst hr;have q1:((f:Int)==0)=false:=by simp;omega
  have q2:((f:Int) != 0)=true:=by simp;omega
  have RS4:=hid S3.out.rs;have RT:=hid (RZ.out f _ S3.out.low);clear hf0;go_wp2_with (first
   |(refine wpList_buildTo rfl 38 _ rfl (some _) rfl pkZ (by kernel_rfl) ?_)
   |(refine wpList_store_row rfl _ _ _ rfl w.heap.size pkZ rfl rfl 38 _ RS4.out (by rw[HZ.out];exact q5nr) rfl PZ.out ?_))
  exact q8iy (cs:=pkZ) rfl rfl rfl rfl underlying38 rfl (by rw[HZ.out];exact q5nr) (setRow_heap _ _ _ _ _ _ RS4.out) RT.out
theorem qcqg(v kind:Int)(s:ByteArray)(w:World)(hk0:-9223372036854775808<=kind)(hk1:kind<=9223372036854775807)(hm:s.size<=140737488351232)(hf:FewS v kind s.data.toList) :
 Calls prog 96 #[.int .i64 v,.int .i64 kind,.string s] w (q3sq w (q98d v kind s.data.toList)):=by
 rw[qw0h];by_cases hk:(versC v&&qfws kind)=false
 ·rw[if_pos hk];exact ql0p v kind s w hk
 ·rw[if_neg hk];exact qyoi v kind s w (by simpa using hk) hk0 hk1 hm hf
theorem qfe2{v kind:Int}{l:List UInt8}(h:l.length<=70000):FewS v kind l:=by
 refine .inl ?_;have h1:((Cs.mk l 0).num 2).2.r.length<=l.length:=by
  unfold Cs.num Cs.take;split
  ·exact Nat.le_refl _
  ·split
   ·exact Nat.le_refl _
   ·simp
 have h2:(((Cs.mk l 0).num 2).2.props v kind).2.r.length<=((Cs.mk l 0).num 2).2.r.length:=by
  unfold Cs.props;split
  ·exact Nat.le_refl _
  ·simp
 omega
end Go.Proofs.YtefmhbioggcfaaaGreatDoor
namespace Go.Proofs.YtefmhbioggcfaaaGreatDoor
open Lib(hid)
open Proofs.Tryz
def FewM(v:Int)(l:List UInt8):Prop:=
 (qday v l).2.2=0->¬((l.length-(qday v l).2.1:Nat):Int)<(qday v l).1.length->8<=(qday v l).1.kind->(qday v l).1.kind<=11->FewS v (qday v l).1.kind ((l.drop (qday v l).2.1).take (qday v l).1.length.toNat)
theorem qp1j{v:Int}{l:List UInt8}(h:l.length<=70000):FewM v l:=fun _ _ _ _=>qfe2 (by rw[List.length_take,List.length_drop];omega)
end Go.Proofs.YtefmhbioggcfaaaGreatDoor
