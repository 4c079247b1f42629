/- The contract of subscribe.reader.packet. Condition: at most 70,000 filters, codes; the bytes are no more than an int says. -/
import Derived.Deep.DeepCutAuto
import Derived.Test.YtbecggefmbpnoaaGreatDoorK41
import Derived.Test.YtbecggefmbpnoaaGreatDoorK37
import Derived.Test.YtbecggefmbpnoaaGreatDoorK09
import Derived.Test.YtbecggefmbpnoaaGreatDoorK13
set_option maxRecDepth 100000
set_option maxHeartbeats 4000000
namespace Go.Proofs.YtbecggefmbpnoaaGreatDoor
open Go.RowKit
structure SpS(w:World)(cb:Nat)(v kind:Int)(s:ByteArray)(b:Nat)(y:Cs)(P:Pk)(a:Ad)(W:World):Prop where
 lt:cb < w.heap.size
 g:w.grownBy W (some cb)
 bx:W.heap[w.heap.size]? = some (.cells #[.pointer (some ⟨cb,0,none⟩),.int .i64 v,.int .i64 kind] 73 (0,0))
 rs:W.heap[w.heap.size+1]? = some (.cells pkZ 29 (0,0))
 hb:w.heap.size+1 < b
 pk:W.heap[b]? = some (.cells (pkC P a) 29 (0,0))
 cs:CsAt W cb s y
 ps:PL W a.ps P.props
 cl:CL W a.cs (ics P.codes)
 fl:CL W a.fs (fcs P.filters)
 ap:∀g i,a.ps=some ⟨g,i,none⟩∨a.cs=some ⟨g,i,none⟩∨a.fs=some ⟨g,i,none⟩→b < g
 pc:P.props.length≤a.pc
section
variable{w W W':World}{cb b:Nat}{s:ByteArray}{x y z:Cs}{v kind:Int}{P P':Pk}{a a':Ad}
theorem SpS.call(h:SpS w cb v kind s b y P a W)(hc:CsAt W' cb s z)(hg:W.grownBy W' (some cb)):SpS w cb v kind s b z P a W':=by
 have o:∀k,k < W.heap.size→k≠cb→W'.heap[k]? = W.heap[k]? := fun k hk hne=>hg.block k hk (fun e=>hne (Option.some.inj e))
 have lt:=h.lt
 have hb:=h.hb
 refine⟨lt,qo6d h.g hg,(o _ (lt_of_block h.bx) (by omega)).trans h.bx,(o _ (lt_of_block h.rs) (by omega)).trans h.rs,hb,(o _ (lt_of_block h.pk) (by omega)).trans h.pk,hc,?_,?_,?_,h.ap,h.pc⟩
 ·exact h.ps.grown hg (fun g i e=>by have:=h.ap g i (.inl e);omega)
 ·exact h.cl.kept hg.size (fun g i e hlt=>o g hlt (by have:=h.ap g i (.inr (.inl e));omega))
 ·exact h.fl.kept hg.size (fun g i e hlt=>o g hlt (by have:=h.ap g i (.inr (.inr e));omega))
theorem SpS.cell(h:SpS w cb v kind s b y P a W)(j:Nat):W.cell? ⟨w.heap.size,j,none⟩=(#[Value.pointer (some ⟨cb,0,none⟩),.int .i64 v,.int .i64 kind]:Array Value)[j]? := cell_of_row _ _ j _ _ _ h.bx
theorem SpS.pcell(h:SpS w cb v kind s b y P a W)(j:Nat):W.cell? ⟨b,j,none⟩=(pkC P a)[j]? := cell_of_row _ _ j _ _ _ h.pk
theorem SpS.fr(h:SpS w cb v kind s b y P a W)(j:Nat):W.frozen? ⟨b,j,none⟩=false:=frozen_of_row _ _ _ _ _ h.pk
theorem SpS.set(h:SpS w cb v kind s b y P a W)(j:Nat)(u:Value)(he:(pkC P a).setIfInBounds j u=pkC P' a')
 (ps:PL W a'.ps P'.props) (cl:CL W a'.cs (ics P'.codes)) (fl:CL W a'.fs (fcs P'.filters)) (ap:∀g i,a'.ps=some ⟨g,i,none⟩∨a'.cs=some ⟨g,i,none⟩∨a'.fs=some ⟨g,i,none⟩→b < g) (pc:P'.props.length≤a'.pc) :
 SpS w cb v kind s b y P' a' (W.setCell ⟨b,j,none⟩ u):=by
 have o:∀k,k≠b→(W.setCell ⟨b,j,none⟩ u).heap[k]? = W.heap[k]? := fun k hk=>heap_setCell_other W ⟨b,j,none⟩ k u hk
 have sz:W.heap.size≤(W.setCell ⟨b,j,none⟩ u).heap.size:=by simp[World.setCell]
 have lt:=h.lt
 have hb:=h.hb
 refine⟨lt,⟨h.g.os,h.g.tape,h.g.output,Nat.le_trans h.g.size sz,fun k hk hne=>(o k (by omega)).trans (h.g.block k hk hne)⟩,(o _ (by omega)).trans h.bx,(o _ (by omega)).trans h.rs,hb,?_,h.cs.of_block (o _ (by omega)),?_,?_,?_,ap,pc⟩
 ·have:=qlvy h.pk j u;rw[he] at this;exact this
 ·exact ps.kept sz (fun g i e _=>o g (by have:=ap g i (.inl e);omega))
 ·exact cl.kept sz (fun g i e _=>o g (by have:=ap g i (.inr (.inl e));omega))
 ·exact fl.kept sz (fun g i e _=>o g (by have:=ap g i (.inr (.inr e));omega))
structure SwS(w:World)(cb:Nat)(v kind:Int)(s:ByteArray)(y z:Cs)(D:Array Value)(x:XG)(W:World):Prop where
 lt:cb < w.heap.size
 g:w.grownBy W (some cb)
 bx:W.heap[w.heap.size]? = some (.cells #[.pointer (some ⟨cb,0,none⟩),.int .i64 v,.int .i64 kind] 73 (0,0))
 rs:W.heap[w.heap.size+1]? = some (.cells pkZ 29 (0,0))
 cs:CsAt W cb s (if xn x then z else y)
 pk:∀b,xa x=some b→w.heap.size+1 < b∧W.heap[b]? = some (.cells (if xs x then D else pkZ) 29 (0,0))
theorem SwS.cell{D:Array Value}{q:XG}(h:SwS w cb v kind s y z D q W)(j:Nat):W.cell? ⟨w.heap.size,j,none⟩=(#[Value.pointer (some ⟨cb,0,none⟩),.int .i64 v,.int .i64 kind]:Array Value)[j]? := cell_of_row _ _ j _ _ _ h.bx
theorem SwS.num{D:Array Value}{g:Option Nat}(h:SwS w cb v kind s y z D (false,g,false) W)(hc:CsAt W' cb s z)(hg:W.grownBy W' (some cb)):SwS w cb v kind s y z D (true,g,false) W':=by
 have o:∀k,k < W.heap.size→k≠cb→W'.heap[k]? = W.heap[k]? := fun k hk hne=>hg.block k hk (fun e=>hne (Option.some.inj e))
 have lt:=h.lt
 refine⟨lt,qo6d h.g hg,(o _ (lt_of_block h.bx) (by omega)).trans h.bx,(o _ (lt_of_block h.rs) (by omega)).trans h.rs,hc,fun b hb=>?_⟩
 obtain⟨h1,h2⟩:=h.pk b hb
 exact⟨h1,(o b (lt_of_block h2) (by omega)).trans h2⟩
theorem SwS.put{D:Array Value}{b:Nat}(h:SwS w cb v kind s y z D (true,some b,false) W):SwS w cb v kind s y z D (true,some b,true) (W.setRow b D):=by
 obtain⟨h1,h2⟩:=h.pk b rfl
 have lt:=h.lt
 refine⟨lt,qacl h.g (by omega) _,(setRow_other _ _ _ _ (by omega)).trans h.bx,(setRow_other _ _ _ _ (by omega)).trans h.rs,h.cs.of_block (setRow_other _ _ _ _ (by omega)),fun c hc=>?_⟩
 obtain rfl:b=c:=Option.some.inj hc
 exact⟨h1,setRow_heap _ _ _ _ _ _ h2⟩
theorem q0qi(x:Cs):(x.num 2).1 < 65536:=by
 unfold Cs.num
 have:=qn9h (x.take 2).1
 have hl:=q5if x 2
 have:256^(x.take 2).1.length≤256^2:=Nat.pow_le_pow_right (by decide) hl
 omega
theorem qubv(hkd:qfws kind=true)(hk0:-9223372036854775808≤kind)(hk1:kind≤9223372036854775807)(hm:s.size≤9223372036854775807)(hf:((x.num 2).2.props v kind).2.r.length≤70000∨(qsfj kind=true∧(Cs.filtsW v kind ((x.num 2).2.props v kind).2).1.length≤70000))(h:CsAt w cb s x) :
 Calls Tryz.prog 37 #[rdS cb v kind] w fun e w'=>(∃a,e = .returned (.agg (pkC (q4qr v kind x).1 a))∧PkAt w' (q4qr v kind x).1 a∧(q4qr v kind x).1.props.length≤a.pc∧a.w=none∧∀g i,a.ps=some ⟨g,i,none⟩∨a.cs=some ⟨g,i,none⟩∨a.fs=some ⟨g,i,none⟩→w.heap.size < g)∧CsAt w' cb s (q4qr v kind x).2∧w.grownBy w' (some cb):=by
 have hk4:8≤kind∧kind≤11:=by simpa [qfws] using hkd
 have NM:=fun W (h:CsAt W cb s x)=>q8yf 2 (by decide) hm h
 have hz:=q0qi x
 unfold q4qr
 obtain⟨⟨z1,z2⟩,hzz⟩:∃z,x.num 2=z:=⟨_,rfl⟩
 rw[hzz] at NM hz hf ⊢
 simp only at NM hz hf ⊢
 have PR:=fun W (h:CsAt W cb s z2)=>qzvp (v:=v) hk0 hk1 hm h
 obtain⟨⟨L,y3⟩,hp⟩:∃z,z2.props v kind=z:=⟨_,rfl⟩
 rw[hp] at PR hf ⊢
 simp only at PR hf ⊢
 have FS:=fun(hk:kind=8∨kind=10) (hn:(Cs.filtsW v kind y3).1.length≤70000) W (h:CsAt W cb s y3)=>qrro (v:=v) hk hm hn h
 have CO:=fun(hn:y3.codes.1.length≤70000) W (h:CsAt W cb s y3)=>qi6w (v:=v) (kind:=kind) hm hn h
 have hlen:(Cs.filtsW v kind y3).1.length≤y3.r.length:=q8jt _ _
 have hcl:y3.codes.1.length≤y3.r.length:=by unfold Cs.codes;split;exact Nat.zero_le _;simp
 obtain⟨D,hD⟩:∃D,pkC {Pk.zero with kind:=kind,id:=(z1:Int)} adZ=D:=⟨_,rfl⟩
 have hD1:D.size=25:=by rw[←hD];exact qwmp _ _
 have hD2:D.all (·.oneCell')=true:=by rw[←hD];exact qmz0 _ _
 have W0:SwS w cb v kind s x z2 D (false,none,false) (((w.alloc (.cells #[.pointer (some ⟨cb,0,none⟩),.int .i64 v,.int .i64 kind] 73)).alloc (.cells pkZ 29)).drew):=
  ⟨h.lt,qo6d (qo6d (World.grownBy_alloc _ _ _) (World.grownBy_alloc _ _ _)) (q9cp (qnpu (Below.refl _ _) 1) _),heap_alloc2_old _ _ _,heap_alloc2_new _ _ _,((h.alloc _).alloc _).draws 1,fun b e=>by cases e⟩
 generalize hP:(if qsfj kind=true then _ else _)=PY
 obtain⟨P,Y⟩:=PY
 simp only
 have HP:=Lib.hid hP
 clear hP
 have HD:=Lib.hid hD
 have HD1:=Lib.hid hD1
 have HD2:=Lib.hid hD2
 have HW0:=Lib.hid W0
 have hzv:=qrai
 have hne:¬pkZ=#[]:=by intro h;have:=qbwp;rw[h] at this;cases this
 have HZ:=Lib.hid qbwp
 replace NM:=Lib.hid NM
 replace PR:=Lib.hid PR
 unfold rdS at *
 clear h hD hD1 hD2 W0 hzz hp
 go_enter Tryz.func37,Tryz.ntmps37
 go_upto_region 1 with fail
 clear hzv hne
 refine q3p3 (S:=SwS w cb v kind s x z2 D) (i:=(z1:Int)) HW0.out HD1.out HD2.out HD.out (by omega) (by omega) (fun x W h=>h.cell 0) (fun x W h=>h.cell 2)
  (fun g W h=>(NM.out W h.cs).mono fun e W' ⟨he,hc,hg⟩=>⟨he,h.num hc hg⟩)
  (fun n W h=>⟨h.lt,qo6d h.g (World.grownBy_alloc _ _ _),(heap_alloc_old _ _ (lt_of_block h.bx)).trans h.bx,(heap_alloc_old _ _ (lt_of_block h.rs)).trans h.rs,h.cs.alloc _,fun b hb=>by
   obtain rfl:W.heap.size=b:=Option.some.inj hb
   exact⟨lt_of_block h.rs,heap_alloc_new _ _⟩⟩)
  (fun g W h=>⟨(h.pk g rfl).2,h.put⟩) ?_
 intro b W h
 have S1:=Lib.hid (show SpS w cb v kind s b z2 {Pk.zero with kind:=kind,id:=(z1:Int)} adZ W from
  ⟨h.lt,h.g,h.bx,h.rs,(h.pk b rfl).1,by rw[HD.out];exact(h.pk b rfl).2,h.cs,PL.nil,CL.nil,CL.nil,fun g i e=>(by rcases e with e | e | e<;>cases e),Nat.le_refl _⟩)
 have c0:W.cell? ⟨w.heap.size,0,none⟩=some (.pointer (some ⟨cb,0,none⟩)):=S1.out.cell 0
 have c1:W.cell? ⟨w.heap.size,1,none⟩=some (.int .i64 v):=S1.out.cell 1
 have c2:W.cell? ⟨w.heap.size,2,none⟩=some (.int .i64 kind):=S1.out.cell 2
 have HZ4:=Lib.hid hk4
 have HF:=Lib.hid (And.intro hf (And.intro hlen hcl))
 clear h HW0 hz NM hf hlen hcl hk4 hkd HD1 HD2
 go_wp2_with fail
 refine(PR.out _ S1.out.cs).mono ?_
 rintro e W2 ⟨⟨A,c,rfl,hLc,hPL,hAd⟩,hc,hg⟩
 have S2:=Lib.hid (S1.out.call hc hg)
 have n24:W2.cell? ⟨b,24,none⟩=some (.slice none 0 0):=S2.out.pcell 24
 have f24:=S2.out.fr 24
 have S3:=Lib.hid (S2.out.set 24 (.slice A L.length c) (P':={Pk.zero with kind:=kind,id:=(z1:Int),props:=L}) (a':={adZ with ps:=A,pc:=c}) rfl hPL CL.nil CL.nil (fun g i e=>by
  rcases e with e | e | e
  ·exact Nat.lt_trans (lt_of_block S1.out.pk) (hAd g i e)
  ·cases e
  ·cases e) hLc)
 clear c0 c1 c2 hc hg hPL hAd hLc PR
 have AS:=Lib.hid (qczm kind)
 have c0:(W2.setCell ⟨b,24,none⟩ (.slice A L.length c)).cell? ⟨w.heap.size,0,none⟩=some (.pointer (some ⟨cb,0,none⟩)):=S3.out.cell 0
 have c1:(W2.setCell ⟨b,24,none⟩ (.slice A L.length c)).cell? ⟨w.heap.size,1,none⟩=some (.int .i64 v):=S3.out.cell 1
 have c2:(W2.setCell ⟨b,24,none⟩ (.slice A L.length c)).cell? ⟨w.heap.size,2,none⟩=some (.int .i64 kind):=S3.out.cell 2
 go_wp2_with fail
 refine(AS.out _).mono ?_
 rintro e W4 ⟨rfl,rfl⟩
 generalize W2.setCell ⟨b,24,none⟩ (.slice A L.length c)=W3 at *
 clear S2 n24 f24 S1
 have ask:=q9zy HZ4.out
 cases ha:qsfj kind with
 | true=>
  rw[ha] at HF ask
  have hk8:kind=8∨kind=10:=by
   rcases ask with ⟨_,h⟩ | ⟨h,_⟩
   ·exact h
   ·cases h
  have FS:=FS hk8 (by
   rcases HF.out.1 with h | ⟨_,h⟩;·have:=HF.out.2.1;omega
   ·exact h)
  have hP:=HP.out
  rw[ha,if_pos rfl] at hP
  obtain⟨⟨M,y4⟩,hM⟩:∃z,Cs.filtsW v kind y3=z:=⟨_,rfl⟩
  rw[hM] at FS hP
  simp only at FS hP
  obtain⟨N,hN⟩:∃N,(if y4.e=0 then M else [])=N:=⟨_,rfl⟩
  rw[hN] at FS hP
  simp only[Prod.mk.injEq] at hP
  obtain⟨rfl,rfl⟩:=hP
  clear HP
  replace FS:=Lib.hid FS
  clear ha ask hM hN HF CO hk8 AS
  go_wp2_with fail
  refine(FS.out _ S3.out.cs).mono ?_
  rintro e W5 ⟨⟨A2,cc,rfl,hCL,hAd⟩,hc,hg⟩
  have S5:=Lib.hid (S3.out.call hc hg)
  have n23:W5.cell? ⟨b,23,none⟩=some (.slice none 0 0):=S5.out.pcell 23
  have f23:=S5.out.fr 23
  have S6:=Lib.hid (S5.out.set 23 (.slice A2 N.length cc) (P':={Pk.zero with kind:=kind,id:=(z1:Int),props:=L,filters:=N}) (a':={adZ with ps:=A,pc:=c,fs:=A2,fc:=cc}) rfl S5.out.ps CL.nil hCL (fun g i e=>by
   rcases e with e | e | e
   ·exact S5.out.ap g i (.inl e)
   ·cases e
   ·exact Nat.lt_trans (lt_of_block S3.out.pk) (hAd g i e)) S5.out.pc)
  have G6:=S6.out.pk
  have R6:=Lib.hid S6.out.rs
  have hR1:=qwmp {Pk.zero with kind:=kind,id:=(z1:Int),props:=L,filters:=N} {adZ with ps:=A,pc:=c,fs:=A2,fc:=cc}
  have hR2:=qmz0 {Pk.zero with kind:=kind,id:=(z1:Int),props:=L,filters:=N} {adZ with ps:=A,pc:=c,fs:=A2,fc:=cc}
  obtain⟨R,hR⟩:∃R,pkC {Pk.zero with kind:=kind,id:=(z1:Int),props:=L,filters:=N} {adZ with ps:=A,pc:=c,fs:=A2,fc:=cc}=R:=⟨_,rfl⟩
  rw[hR] at G6 hR1 hR2
  have HR:=Lib.hid hR
  replace G6:=Lib.hid G6
  have HR1:=Lib.hid hR1
  have HR2:=Lib.hid hR2
  clear hR1 hR2 hR hc hg hCL hAd c0 c1 c2 S3
  go_wp2_with (first
   | (refine wpList_load_row rfl _ _ rfl b rfl 29 R (0,0) _ G6.out Tryz.underlying29 rfl (by rw[HR1.out];exact q5nr) ?_)
   | (refine wpList_store_row rfl _ _ _ rfl (w.heap.size+1) R rfl rfl 29 _ R6.out (by rw[HR1.out];exact q5nr) (by rw[HZ.out,HR1.out]) HR2.out ?_))
  have LT:=S6.out.lt
  have HB:=S6.out.hb
  have q1:=fun g i (h:_∨_∨_)=>S6.out.ap g i h
  refine q7wi (cs:=R) rfl rfl rfl Tryz.underlying29 rfl (by rw[HR1.out];exact q5nr) (setRow_heap _ _ _ _ _ _ R6.out) ⟨⟨{adZ with ps:=A,pc:=c,fs:=A2,fc:=cc},by rw[HR.out],⟨fun e=>absurd rfl e,CL.nil,?_,?_⟩,S6.out.pc,rfl,fun g i h=>by have:=q1 g i h;omega⟩,?_,?_⟩
  ·exact S6.out.fl.kept (by simp[World.setRow]) (fun g i e _=>setRow_other _ _ _ _ (by have:=q1 g i (.inr (.inr e));omega))
  ·exact S6.out.ps.kept (by simp[World.setRow]) (fun g i e _=>setRow_other _ _ _ _ (by have:=q1 g i (.inl e);omega))
  ·exact S6.out.cs.of_block (setRow_other _ _ _ _ (by omega))
  ·exact qacl S6.out.g (by omega) _
 | false=>
  rw[ha] at HF
  have CO:=CO (by
   rcases HF.out.1 with h | ⟨h,_⟩;·have:=HF.out.2.2;omega
   ·cases h)
  have hP:=HP.out
  rw[ha,if_neg (by decide)] at hP
  obtain⟨⟨N,y4⟩,hM⟩:∃z,y3.codes=z:=⟨_,rfl⟩
  rw[hM] at CO hP
  simp only at CO hP
  simp only[Prod.mk.injEq] at hP
  obtain⟨rfl,rfl⟩:=hP
  clear HP
  replace CO:=Lib.hid CO
  clear ha ask hM HF FS AS
  go_wp2_with fail
  refine(CO.out _ S3.out.cs).mono ?_
  rintro e W5 ⟨⟨A2,cc,rfl,hCL,hAd⟩,hc,hg⟩
  have S5:=Lib.hid (S3.out.call hc hg)
  have n22:W5.cell? ⟨b,22,none⟩=some (.slice none 0 0):=S5.out.pcell 22
  have f22:=S5.out.fr 22
  have S6:=Lib.hid (S5.out.set 22 (.slice A2 N.length cc) (P':={Pk.zero with kind:=kind,id:=(z1:Int),props:=L,codes:=N}) (a':={adZ with ps:=A,pc:=c,cs:=A2,cc:=cc}) rfl S5.out.ps hCL CL.nil (fun g i e=>by
   rcases e with e | e | e
   ·exact S5.out.ap g i (.inl e)
   ·exact Nat.lt_trans (lt_of_block S3.out.pk) (hAd g i e)
   ·cases e) S5.out.pc)
  have G6:=S6.out.pk
  have R6:=Lib.hid S6.out.rs
  have hR1:=qwmp {Pk.zero with kind:=kind,id:=(z1:Int),props:=L,codes:=N} {adZ with ps:=A,pc:=c,cs:=A2,cc:=cc}
  have hR2:=qmz0 {Pk.zero with kind:=kind,id:=(z1:Int),props:=L,codes:=N} {adZ with ps:=A,pc:=c,cs:=A2,cc:=cc}
  obtain⟨R,hR⟩:∃R,pkC {Pk.zero with kind:=kind,id:=(z1:Int),props:=L,codes:=N} {adZ with ps:=A,pc:=c,cs:=A2,cc:=cc}=R:=⟨_,rfl⟩
  rw[hR] at G6 hR1 hR2
  have HR:=Lib.hid hR
  replace G6:=Lib.hid G6
  have HR1:=Lib.hid hR1
  have HR2:=Lib.hid hR2
  clear hR1 hR2 hR hc hg hCL hAd c0 c1 c2 S3
  go_wp2_with (first
   | (refine wpList_load_row rfl _ _ rfl b rfl 29 R (0,0) _ G6.out Tryz.underlying29 rfl (by rw[HR1.out];exact q5nr) ?_)
   | (refine wpList_store_row rfl _ _ _ rfl (w.heap.size+1) R rfl rfl 29 _ R6.out (by rw[HR1.out];exact q5nr) (by rw[HZ.out,HR1.out]) HR2.out ?_))
  have LT:=S6.out.lt
  have HB:=S6.out.hb
  have q1:=fun g i (h:_∨_∨_)=>S6.out.ap g i h
  refine q7wi (cs:=R) rfl rfl rfl Tryz.underlying29 rfl (by rw[HR1.out];exact q5nr) (setRow_heap _ _ _ _ _ _ R6.out) ⟨⟨{adZ with ps:=A,pc:=c,cs:=A2,cc:=cc},by rw[HR.out],⟨fun e=>absurd rfl e,?_,CL.nil,?_⟩,S6.out.pc,rfl,fun g i h=>by have:=q1 g i h;omega⟩,?_,?_⟩
  ·exact S6.out.cl.kept (by simp[World.setRow]) (fun g i e _=>setRow_other _ _ _ _ (by have:=q1 g i (.inr (.inl e));omega))
  ·exact S6.out.ps.kept (by simp[World.setRow]) (fun g i e _=>setRow_other _ _ _ _ (by have:=q1 g i (.inl e);omega))
  ·exact S6.out.cs.of_block (setRow_other _ _ _ _ (by omega))
  ·exact qacl S6.out.g (by omega) _
end
end Go.Proofs.YtbecggefmbpnoaaGreatDoor
