/- The contract of ack.readTail. Condition: the bytes are no more than an int says. -/
import Derived.Test.YtefmhbioggcfaaaGreatDoorK31
import Derived.Test.YtefmhbioggcfaaaGreatDoorK34
set_option maxRecDepth 100000
set_option maxHeartbeats 4000000
namespace Go.Proofs.YtefmhbioggcfaaaGreatDoor
open Lib(hid)
open Proofs.Tryz
open Go.RowKit
section
variable{w W W':World}{cb:Nat}{s:ByteArray}{y:Cs}{B i:Nat}{kind:Int}
theorem qg0m(x:Cs):(x.num 1).1<65536:=by
 unfold Cs.num
 have:=qn9h (x.take 1).1
 have hl:(x.take 1).1.length<=1:=by
  unfold Cs.take;split
  ·simp
  ·split
   ·simp
   ·simp;omega
 have:256^(x.take 1).1.length<=256^1:=Nat.pow_le_pow_right (by decide) hl
 omega
theorem qafx(hk0:-9223372036854775808<=kind)(hk1:kind<=9223372036854775807)(hm:s.size<=140737488351232)(h:CsS w cb s B y (pkB kind i 0 []) adZ W) :
 Calls prog 173 #[.pointer (some ⟨cb,0,none⟩),.pointer (some ⟨B,0,none⟩)] W fun e W'=>e=.returned (.int .i64 ((qolc kind y).1.2.2:Nat))/\∃a',CsS w cb s B (qolc kind y).2 (pkB kind i (qolc kind y).1.1 (qolc kind y).1.2.1) a' W':=by
 have hm9:s.size<=9223372036854775807:=by omega
 have LF:=fun(z:Cs) W (h:CsAt W cb s z)=>qjtm hm9 h;have H:=hid h;have L1:=LF y W h.cs;unfold qolc;by_cases hr:y.r=[]
 ·rw[if_pos hr];rw[hr] at L1;replace L1:=hid L1;clear LF h hr hm hm9;go_in;go_wp2_with fail;refine(L1.out).mono ?_;rintro e w2 ⟨rfl,n,rfl⟩;have H2:=hid (H.out.draws n);go_wp2;go_ret;exact⟨rfl,adZ,H2.out⟩
 ·rw[if_neg hr];have q1:(((y.r.length:Nat):Int)==0)=false:=by
   have:=List.length_pos_iff.2 hr
   simp;omega
  generalize y.r.length=n1 at *;have NM:=fun W (h:CsAt W cb s y)=>q8yf 1 (by decide) hm9 h;have hz:=qg0m y;obtain⟨z,hzz⟩:∃z,y.num 1=z:=⟨_,rfl⟩
  rw[hzz] at NM hz ⊢;obtain⟨z1,z2⟩:=z;simp only at NM hz ⊢;have hz0:(z1:Int)<65536:=by omega
  have L2:=fun W (h:CsAt W cb s z2)=>LF z2 W h;replace NM:=hid NM;replace L1:=hid L1;by_cases hr2:z2.r=[]
  ·rw[if_pos hr2];rw[hr2] at L2;replace L2:=hid L2;clear LF h hr hm hm9 hr2 hzz hz;go_in;go_wp2_with fail;refine(L1.out).mono ?_;rintro e w2 ⟨rfl,n,rfl⟩;have H2:=hid (H.out.draws n);clear L1;go_wp2_with fail;refine(NM.out _ H2.out.cs).mono ?_;rintro e w3 ⟨rfl,hc,hg⟩;have H3:=hid (H2.out.call hc hg);have n21:w3.cell? ⟨B,21,none⟩=some (.int .i64 0):=H3.out.cell 21;have f21:=H3.out.fr 21;have H4:=hid (H3.out.set 21 (.int .i64 (z1:Int)) (P':=pkB kind i z1 []) (a':=adZ) rfl H3.out.ps H3.out.pc H3.out.pf);clear hc hg H2;go_wp2_with fail;refine(L2.out _ H4.out.cs).mono ?_;rintro e w4 ⟨rfl,n,rfl⟩;have H5:=hid (H4.out.draws n);clear H4 H3 n21 f21;go_wp2;go_ret;exact⟨rfl,adZ,H5.out⟩
  ·rw[if_neg hr2];have q2:(((z2.r.length:Nat):Int)==0)=false:=by
    have:=List.length_pos_iff.2 hr2
    simp;omega
   generalize z2.r.length=n2 at *;obtain⟨L,k,F,hq⟩:∃L k F,qflw kind z2.r=(L,k,F):=⟨_,_,_,rfl⟩
   have RD:=fun W (h:CsAt W cb s z2)=>q188 kind (bs z2.r) L k F hk0 hk1 (by rw[q5zk];have:=h.len;omega) hq W;rw[hq];have RS:=fun W (h:CsAt W cb s z2)=>qzrp hm9 h;have TK:=fun W (h:CsAt W cb s z2)=>qgtr k hm9 h;have FL:=fun(x:Cs) W (h:CsAt W cb s x)=>qazj F h;simp only;generalize bs z2.r=T at *;obtain⟨y3,hy3⟩:∃y3,z2.take k=y3:=⟨_,rfl⟩
   rw[hy3] at TK ⊢;replace RD:=hid RD;replace RS:=hid RS;replace TK:=hid TK;replace FL:=hid FL;replace L2:=hid L2;clear LF h hr hm hm9 hr2 hzz hz hy3 hq;go_in;go_wp2_with fail;refine(L1.out).mono ?_;rintro e w2 ⟨rfl,n,rfl⟩;have H2:=hid (H.out.draws n);clear L1;go_wp2_with fail;refine(NM.out _ H2.out.cs).mono ?_;rintro e w3 ⟨rfl,hc,hg⟩;have H3:=hid (H2.out.call hc hg);have n21:w3.cell? ⟨B,21,none⟩=some (.int .i64 0):=H3.out.cell 21;have f21:=H3.out.fr 21;have H4:=hid (H3.out.set 21 (.int .i64 (z1:Int)) (P':=pkB kind i z1 []) (a':=adZ) rfl H3.out.ps H3.out.pc H3.out.pf);clear hc hg H2;go_wp2_with fail;refine(L2.out _ H4.out.cs).mono ?_;rintro e w4 ⟨rfl,n,rfl⟩;have H5:=hid (H4.out.draws n);clear H4 H3 n21 f21
   go_upto_region 6 with fail
   refine qv1p (S:=fun x V=>CsS w cb s B z2 (pkB kind i z1 []) adZ V/\∀A c,x=some (A,c)->PL V A L/\L.length<=c/\∀g i,A=some ⟨g,i,none⟩->B<g) (n:=L.length) (k:=(k:Int)) (f:=(F:Int)) (t:=T) ⟨H5.out.draws 1,fun A c e=>by cases e⟩ (fun x V hS=>hS.1.cell 0)
    (fun x V hS=>(RS.out V hS.1.cs).mono fun e W' ⟨he,n,hn⟩=>⟨he,hn▸hS.1.draws n,fun A c e=>by obtain⟨p1,p2,p3⟩:=hS.2 A c e;exact⟨hn▸p1.below (qnpu (Below.refl _ _) n),p2,p3⟩⟩)
    (fun x V hS=>(RD.out V hS.1.cs).mono fun e W' ⟨hb,A,c,he,hc,hP,_,_,hA⟩=>⟨A,c,he,hS.1.below hb,fun A' c' e=>by cases e;exact⟨hP,hc,fun g i e=>Nat.lt_of_lt_of_le (lt_of_block hS.1.pk) (hA g i e)⟩⟩) ?_
   intro x V hx hS;obtain⟨⟨A,c⟩,rfl⟩:=Option.isSome_iff_exists.1 hx;obtain⟨p1,p2,p3⟩:=hS.2 A c rfl;have H6:=hid hS.1;have P6:=hid p1;have Q6:=hid (And.intro p2 p3);have CB:=hid H6.out.ne;have BB:=hid (show cb<B by have:=H6.out.lt;have:=H6.out.hB;omega);clear hx hS p1 p2 p3 H5;go_wp2_with fail;refine(TK.out _ H6.out.cs).mono ?_;rintro e w7 ⟨rfl,hc,hg⟩;have H7:=hid (H6.out.call hc hg);have P7:=hid (P6.out.grown hg (fun g i e=>by have:=Q6.out.2 g i e;have:=BB.out;omega));clear hc hg;go_wp2_with fail;refine(FL.out _ _ H7.out.cs).mono ?_;rintro e w8 ⟨rfl,hc,hg⟩;have H8:=hid (H7.out.call hc hg);have P8:=hid (P7.out.grown hg (fun g i e=>by have:=Q6.out.2 g i e;have:=BB.out;omega));have n24:w8.cell? ⟨B,24,none⟩=some (.slice none 0 0):=H8.out.cell 24;have f24:=H8.out.fr 24;have H9:=hid (H8.out.set 24 (.slice A L.length c) (P':=pkB kind i z1 L) (a':={adZ with ps:=A,pc:=c}) rfl P8.out Q6.out.1 Q6.out.2);clear hc hg;go_wp2;go_ret;exact⟨rfl,_,H9.out⟩
end
section
variable{w W W':World}{cb:Nat}{s:ByteArray}{x:Cs}{v:Int}
theorem qunn(x:Cs):(x.num 1).1<256:=by
 unfold Cs.num;have h1:=qn9h (x.take 1).1;have hl:(x.take 1).1.length<=1:=by
  unfold Cs.take;split
  ·simp
  ·split
   ·simp
   ·simp;omega
 have:256^(x.take 1).1.length<=256^1:=Nat.pow_le_pow_right (by decide) hl
 omega
theorem qq02:∀f<256,∀b4:Bool,(f%2==0&&(decide ((0:Int)<=(f / 8%4:Nat))&&decide (((f / 8%4:Nat):Int)<=2)&&((f / 4%2==1) || (((f / 8%4:Nat):Int)==0&&!(f / 32%2==1)))&&!(b4&&(f / 64%2==1)&&!(f / 128%2==1))))=
 !(f%2==1 || f / 8%4==3 || (f / 4%2==0&&f / 8%8 != 0) || (b4&&f / 64==1)):=by decide+kernel
theorem qdcd(v:Int){f:Nat}(hf:f<256):(f%2==0&&fitC v (f / 4%2==1) (f / 64%2==1) (f / 128%2==1) (f / 32%2==1) (f / 8%4:Nat))=!qoy6 v f:=qq02 f hf (v==4)
theorem qz9v(y:Cs)(b:Bool)(f:Nat):(if b then y else y.fail f)=if y.e=0/\b=false then y.fail f else y:=by
 cases b
 ·by_cases h:y.e=0
  ·simp[h]
  ·simp[h,Cs.fail]
 ·simp
structure RkS(w:World)(cb:Nat)(s:ByteArray)(v:Int)(y:Cs)(W:World):Prop where
 lt:cb<w.heap.size
 g:w.grownBy W (some cb)
 bx:W.heap[w.heap.size]?=some (.cells #[.pointer (some ⟨cb,0,none⟩),.int .i64 v] 155 (0,0))
 rs:W.heap[w.heap.size+1]?=some (.cells pkZ 38 (0,0))
 cs:CsAt W cb s y
theorem RkS.made(h:CsAt w cb s x):RkS w cb s v x ((w.alloc (.cells #[.pointer (some ⟨cb,0,none⟩),.int .i64 v] 155)).alloc (.cells pkZ 38)):=
 ⟨h.lt,qo6d (World.grownBy_alloc _ _ _) (World.grownBy_alloc _ _ _),heap_alloc2_old _ _ _,heap_alloc2_new _ _ _,(h.alloc _).alloc _⟩
theorem RkS.call{y y':Cs}(h:RkS w cb s v y W)(hc:CsAt W' cb s y')(hg:W.grownBy W' (some cb)):RkS w cb s v y' W':=
 ⟨h.lt,qo6d h.g hg,(hg.block _ (lt_of_block h.bx) (fun e=>by have:=Option.some.inj e;have:=h.lt;omega)).trans h.bx,(hg.block _ (lt_of_block h.rs) (fun e=>by have:=Option.some.inj e;have:=h.lt;omega)).trans h.rs,hc⟩
theorem RkS.below{y:Cs}(h:RkS w cb s v y W)(hb:Below W.heap.size W W'):RkS w cb s v y W':=h.call (h.cs.below hb) (q9cp hb _)
theorem RkS.drew{y:Cs}(h:RkS w cb s v y W):RkS w cb s v y W.drew:=⟨h.lt,qif8 h.g 1,h.bx,h.rs,h.cs⟩
theorem RkS.c0{y:Cs}(h:RkS w cb s v y W):W.cell? ⟨w.heap.size,0,none⟩=some (.pointer (some ⟨cb,0,none⟩)):=cell_of_row _ _ 0 _ _ _ h.bx
theorem RkS.c1{y:Cs}(h:RkS w cb s v y W):W.cell? ⟨w.heap.size,1,none⟩=some (.int .i64 v):=cell_of_row _ _ 1 _ _ _ h.bx
theorem RkS.other{y:Cs}(h:RkS w cb s v y W){B:Nat}(hB:w.heap.size+2<=B)(hg:W.grownBy W' (some B)):RkS w cb s v y W':=
 ⟨h.lt,⟨hg.os.trans h.g.os,hg.tape.trans h.g.tape,hg.output.trans h.g.output,Nat.le_trans h.g.size hg.size,fun k hk hne=>(hg.block k (Nat.lt_of_lt_of_le hk h.g.size) (fun e=>by have:=Option.some.inj e;omega)).trans (h.g.block k hk hne)⟩,
  (hg.block _ (lt_of_block h.bx) (fun e=>by have:=Option.some.inj e;omega)).trans h.bx,(hg.block _ (lt_of_block h.rs) (fun e=>by have:=Option.some.inj e;omega)).trans h.rs,
  h.cs.of_block (hg.block _ h.cs.lt (fun e=>by have:=Option.some.inj e;have:=h.lt;omega))⟩
theorem qb3g(hm:s.size<=9223372036854775807)(h:CsAt w cb s x) :
 Calls prog 194 #[rdrV cb v] w fun e w'=>e=.returned (.agg (pkC (q8ku (x.flags v).1) adZ))/\CsAt w' cb s (x.flags v).2/\w.grownBy w' (some cb):=by
 have S0:=hid (RkS.made (v:=v) h);have OC:=hid (fun W (h:CsAt W cb s x)=>qevs (v:=v) hm h);have hf:=qunn x;unfold Cs.flags;rw[show(if (x.num 1).2.e=0/\qoy6 v (x.num 1).1=true then(x.num 1).2.fail 7 else(x.num 1).2)=(if (!qoy6 v (x.num 1).1) then(x.num 1).2 else(x.num 1).2.fail 7) by rw[qz9v];simp];generalize x.num 1=z at *;obtain⟨f,y⟩:=z;have hw:=qdcd v hf;obtain⟨_,_,_,_,_,_,hb1⟩:=qmn0 f hf;have DE:=hid (qmea f hf);have RQ:=hid (fun(b:Bool) W (h:CsAt W cb s y)=>qr75 (v:=v) b 7 h);have FF:=fun W=>qntu v (c:=pkC (q8ku f) adZ) W (show(pkC (q8ku f) adZ)[10]?=some (.bool (f / 128%2==1)) from rfl) (show(pkC (q8ku f) adZ)[12]?=some (.bool (f / 64%2==1)) from rfl) (show(pkC (q8ku f) adZ)[14]?=some (.bool (f / 4%2==1)) from rfl) (show(pkC (q8ku f) adZ)[17]?=some (.int .i64 (f / 8%4:Nat)) from rfl) (show(pkC (q8ku f) adZ)[18]?=some (.bool (f / 32%2==1)) from rfl);simp only at hf hw ⊢;rw[<-hw];generalize fitC v (f / 4%2==1) (f / 64%2==1) (f / 128%2==1) (f / 32%2==1) (f / 8%4:Nat)=b at *;obtain⟨g,hgb⟩:∃g,(f%2==0&&b)=g:=⟨_,rfl⟩
 rw[hgb];have HGB:=hid hgb;obtain⟨yf,hyf⟩:∃z,(if g=true then y else y.fail 7)=z:=⟨_,rfl⟩
 rw[hyf];have HY:=hid hyf;clear hgb hyf;have hD1:=qwmp (q8ku f) adZ;have hD2:=qmz0 (q8ku f) adZ;generalize pkC (q8ku f) adZ=D at *;have FF:=hid FF;have HD1:=hid hD1;have HD2:=hid hD2;have HZ:=hid qbwp;have hzv:=qrai;have hne:¬pkZ=#[]:=by intro h;have:=qbwp;rw[h] at this;cases this
 obtain⟨m,hm1⟩:∃m,bits .and .i64 (f:Int) 1=m:=⟨_,rfl⟩
 rw[hm1] at hb1;have HM:=hid hm1;unfold rdrV at *;clear hD1 hD2 hf hw h;go_in;have c0:=S0.out.c0;have c1:=S0.out.c1;go_wp2_with fail;refine(OC.out _ S0.out.cs).mono ?_;rintro e W1 ⟨rfl,hc,hg⟩;have S1:=hid (S0.out.call hc hg);clear hc hg c0 c1;have c0:=S1.out.c0;have c1:=S1.out.c1;go_wp2_with fail;refine(DE.out _).mono ?_;rintro e W2 ⟨rfl,hb⟩;have S2:=hid (S1.out.below hb);clear hb c0 c1;have Z2:=hid (show w.heap.size+2<=W2.heap.size from lt_of_block S2.out.rs);have SP:=hid ((S2.out.below (qybm (.cells pkZ 38))).other Z2.out (W':=(W2.alloc (.cells pkZ 38)).setRow W2.heap.size D) (q573 _ _ _));have GP:=hid (setRow_heap _ _ _ D _ _ (heap_alloc_new W2 (.cells pkZ 38)));have CB:=hid S2.out.lt;cases hz:(f%2==0) with
 |true=>
  rw[hz] at hb1;have hgb:=HGB.out;rw[hz,Bool.true_and] at hgb;have HGB2:=hid hgb;clear HGB hgb;have HB:=hid hb1;clear hz hb1
  go_upto_region 3 with (first
   |(refine wpList_store_row rfl _ _ _ rfl W2.heap.size D rfl rfl 38 _ (heap_alloc_new W2 _) (by rw[HD1.out];exact q5nr) (by rw[HZ.out,HD1.out]) HD2.out ?_))
  refine q58n (S:=fun u W=>RkS w cb s v (if u=true then(if b=true then y else y.fail 7) else y) W/\W.heap[W2.heap.size]?=some (.cells D 38 (0,0))) (B:=w.heap.size) (P:=W2.heap.size) ⟨SP.out.drew,GP.out⟩ (fun u W h=>h.1.c0) (fun u W h=>h.1.c1) HM.out HB.out HD1.out (fun u W h=>h.2) (fun u W h=>(FF.out W).mono fun e w' ⟨he,hb⟩=>⟨he,h.1.below hb,(hb.block _ (lt_of_block h.2)).trans h.2⟩) (fun u W h hu=>by subst hu;exact(RQ.out b W h.1.cs).mono fun e w' ⟨he,hc,hg⟩=>⟨he,h.1.call hc hg,(hg.block _ (lt_of_block h.2) (fun e=>by have:=Option.some.inj e;have:=CB.out;have:=Z2.out;omega)).trans h.2⟩) ?_
  intro W3 hS;have hS1:=hS.1;rw[if_pos rfl,HGB2.out,HY.out] at hS1;have S3:=hid hS1;have G3:=hid hS.2;clear hS hS1;go_wp2_with (first
   |(refine wpList_load_row rfl _ _ rfl W2.heap.size rfl 38 D (0,0) _ G3.out underlying38 rfl (by rw[HD1.out];exact q5nr) ?_)
   |(refine wpList_store_row rfl _ _ _ rfl (w.heap.size+1) D rfl rfl 38 _ S3.out.rs (by rw[HD1.out];exact q5nr) (by rw[HZ.out,HD1.out]) HD2.out ?_))
  refine q7wi (cs:=D) rfl rfl rfl underlying38 rfl (by rw[HD1.out];exact q5nr) (setRow_heap _ _ _ _ _ _ S3.out.rs) ⟨rfl,?_,?_⟩
  ·exact S3.out.cs.of_block (setRow_other W3 (w.heap.size+1) cb D (Nat.ne_of_lt (Nat.lt_succ_of_lt S3.out.lt)))
  ·exact qacl S3.out.g (by omega) _
 |false=>
  rw[hz] at hb1;have hgb:=HGB.out;rw[hz,Bool.false_and] at hgb;have HGB2:=hid hgb;clear HGB hgb;have HB:=hid hb1;clear hz hb1
  go_upto_region 3 with (first
   |(refine wpList_store_row rfl _ _ _ rfl W2.heap.size D rfl rfl 38 _ (heap_alloc_new W2 _) (by rw[HD1.out];exact q5nr) (by rw[HZ.out,HD1.out]) HD2.out ?_))
  refine q7fu (S:=fun u W=>RkS w cb s v (if u=true then(if false=true then y else y.fail 7) else y) W/\W.heap[W2.heap.size]?=some (.cells D 38 (0,0))) (B:=w.heap.size) (P:=W2.heap.size) ⟨SP.out.drew,GP.out⟩ (fun u W h=>h.1.c0) (fun u W h=>h.1.c1) HM.out HB.out (fun u W h hu=>by subst hu;exact(RQ.out false W h.1.cs).mono fun e w' ⟨he,hc,hg⟩=>⟨he,h.1.call hc hg,(hg.block _ (lt_of_block h.2) (fun e=>by have:=Option.some.inj e;have:=CB.out;have:=Z2.out;omega)).trans h.2⟩) ?_
  intro W3 hS;have hS1:=hS.1;rw[if_pos rfl,HGB2.out,HY.out] at hS1;have S3:=hid hS1;have G3:=hid hS.2;clear hS hS1;go_wp2_with (first
   |(refine wpList_load_row rfl _ _ rfl W2.heap.size rfl 38 D (0,0) _ G3.out underlying38 rfl (by rw[HD1.out];exact q5nr) ?_)
   |(refine wpList_store_row rfl _ _ _ rfl (w.heap.size+1) D rfl rfl 38 _ S3.out.rs (by rw[HD1.out];exact q5nr) (by rw[HZ.out,HD1.out]) HD2.out ?_))
  refine q7wi (cs:=D) rfl rfl rfl underlying38 rfl (by rw[HD1.out];exact q5nr) (setRow_heap _ _ _ _ _ _ S3.out.rs) ⟨rfl,?_,?_⟩
  ·exact S3.out.cs.of_block (setRow_other W3 (w.heap.size+1) cb D (Nat.ne_of_lt (Nat.lt_succ_of_lt S3.out.lt)))
  ·exact qacl S3.out.g (by omega) _
end
structure ReS(w:World)(cb:Nat)(s:ByteArray)(v:Int)(B:Nat)(y:Cs)(P:Pk)(a:Ad)(W:World):Prop where
 rk:RkS w cb s v y W
 hB:w.heap.size+2<=B
 pk:W.heap[B]?=some (.cells (pkC P a) 38 (0,0))
 ps:PL W a.ps P.props
 pc:P.props.length<=a.pc
 pf:∀g i,a.ps=some ⟨g,i,none⟩->B<g
 ws:PL W a.w P.wProps
 wc:P.wProps.length<=a.wc
 wf:∀g i,a.w=some ⟨g,i,none⟩->B<g
section
variable{w W W':World}{cb:Nat}{s:ByteArray}{x y y':Cs}{v:Int}{B:Nat}{P P':Pk}{a a':Ad}
theorem ReS.ne(h:ReS w cb s v B y P a W):B≠cb:=by have:=h.rk.lt;have:=h.hB;omega
theorem ReS.call(h:ReS w cb s v B y P a W)(hc:CsAt W' cb s y')(hg:W.grownBy W' (some cb)):ReS w cb s v B y' P a W':=
 ⟨h.rk.call hc hg,h.hB,(hg.block _ (lt_of_block h.pk) (fun e=>h.ne (Option.some.inj e))).trans h.pk,h.ps.grown hg (fun g i e=>by have:=h.pf g i e;have:=h.rk.lt;have:=h.hB;omega),h.pc,h.pf,h.ws.grown hg (fun g i e=>by have:=h.wf g i e;have:=h.rk.lt;have:=h.hB;omega),h.wc,h.wf⟩
theorem ReS.cell(h:ReS w cb s v B y P a W)(j:Nat):W.cell? ⟨B,j,none⟩=(pkC P a)[j]? := cell_of_row _ _ j _ _ _ h.pk
theorem ReS.fr(h:ReS w cb s v B y P a W)(j:Nat):W.frozen? ⟨B,j,none⟩=false:=frozen_of_row _ _ _ _ _ h.pk
theorem ReS.put(h:ReS w cb s v B y P a W)(j:Nat)(u:Value)(he:(pkC P a).setIfInBounds j u=pkC P' a)(hp:P'.props=P.props)(hw:P'.wProps=P.wProps):ReS w cb s v B y P' a (W.setCell ⟨B,j,none⟩ u):=by
 have hg:=q99v W B j u;refine⟨h.rk.other h.hB hg,h.hB,by have:=qlvy h.pk j u;rw[he] at this;exact this,?_,by rw[hp];exact h.pc,h.pf,?_,by rw[hw];exact h.wc,h.wf⟩
 ·rw[hp];exact h.ps.grown hg (fun g i e=>by have:=h.pf g i e;omega)
 ·rw[hw];exact h.ws.grown hg (fun g i e=>by have:=h.wf g i e;omega)
theorem ReS.putPs(h:ReS w cb s v B y P a W){A:Option Addr}{c:Nat}{L:List Pr}(hL:PL W A L)(hc:L.length<=c)(hf:∀g i,A=some ⟨g,i,none⟩->B<g):ReS w cb s v B y {P with props:=L} {a with ps:=A,pc:=c} (W.setCell ⟨B,24,none⟩ (.slice A L.length c)):=by have hg:=q99v W B 24 (.slice A L.length c);exact⟨h.rk.other h.hB hg,h.hB,qlvy h.pk 24 (.slice A L.length c),hL.grown hg (fun g i e=>by have:=hf g i e;omega),hc,hf,h.ws.grown hg (fun g i e=>by have:=h.wf g i e;omega),h.wc,h.wf⟩
theorem ReS.putWs(h:ReS w cb s v B y P a W){A:Option Addr}{c:Nat}{L:List Pr}(hL:PL W A L)(hc:L.length<=c)(hf:∀g i,A=some ⟨g,i,none⟩->B<g):ReS w cb s v B y {P with wProps:=L} {a with w:=A,wc:=c} (W.setCell ⟨B,19,none⟩ (.slice A L.length c)):=by have hg:=q99v W B 19 (.slice A L.length c);exact⟨h.rk.other h.hB hg,h.hB,qlvy h.pk 19 (.slice A L.length c),h.ps.grown hg (fun g i e=>by have:=h.pf g i e;omega),h.pc,h.pf,hL.grown hg (fun g i e=>by have:=hf g i e;omega),hc,hf⟩
theorem ReS.laid(h:RkS w cb s v y W){D:Array Value}(hD:pkC P adZ=D)(hp:P.props=[])(hw:P.wProps=[]):ReS w cb s v W.heap.size y P adZ ((W.alloc (.cells pkZ 38)).setRow W.heap.size D):=by
 have Z:=lt_of_block h.rs;refine⟨(h.below (qybm (.cells pkZ 38))).other Z (q573 _ _ _),Z,by rw[hD];exact setRow_heap _ _ _ D _ _ (heap_alloc_new W _),?_,by rw[hp];exact Nat.zero_le _,fun g i e=>(by cases e),?_,by rw[hw];exact Nat.zero_le _,fun g i e=>(by cases e)⟩
 ·rw[hp];exact PL.nil
 ·rw[hw];exact PL.nil
def q563(w:World)(cb:Nat)(s:ByteArray)(y:Cs)(P:Pk)(e:Ending)(W:World):Prop:=
 ∃a:Ad,e=.returned (.agg (pkC P a))/\PL W a.ps P.props/\P.props.length<=a.pc/\PL W a.w P.wProps/\P.wProps.length<=a.wc/\(∀g i,a.ps=some ⟨g,i,none⟩->w.heap.size<=g)/\(∀g i,a.w=some ⟨g,i,none⟩->w.heap.size<=g)/\CsAt W cb s y/\w.grownBy W (some cb)
theorem ReS.ret(h:ReS w cb s v B y P a W)(D:Array Value):q563 w cb s y P (.returned (.agg (pkC P a))) (W.setRow (w.heap.size+1) D):=by have hg:=q573 W (w.heap.size+1) D;have hb:=h.hB;refine⟨a,rfl,h.ps.grown hg (fun g i e=>by have:=h.pf g i e;omega),h.pc,h.ws.grown hg (fun g i e=>by have:=h.wf g i e;omega),h.wc,fun g i e=>by have:=h.pf g i e;omega,fun g i e=>by have:=h.wf g i e;omega,?_,qacl h.rk.g (by omega) _⟩;exact h.rk.cs.of_block (setRow_other W (w.heap.size+1) cb D (Nat.ne_of_lt (Nat.lt_succ_of_lt h.rk.lt)))
theorem q1g9:∀f:Nat,f<256->(bits .andNot .i64 (f:Int) 1==0)=decide (f<=1):=by decide+kernel
theorem qldz(hm:s.size<=9223372036854775807)(h:CsAt w cb s x) :
 Calls prog 154 #[rdrV cb v] w (q563 w cb s (qx6n v x).2 (qx6n v x).1):=by
 have S0:=hid (RkS.made (v:=v) h);have hf:=qunn x;obtain⟨z,hz⟩:∃z,x.num 1=z:=⟨_,rfl⟩
 obtain⟨f,y1⟩:=z;rw[hz] at hf;obtain⟨y2,hy2⟩:∃z,(if f > 1 then y1.fail 7 else y1)=z:=⟨_,rfl⟩
 obtain⟨z,hz3⟩:∃z,y2.num 1=z:=⟨_,rfl⟩
 obtain⟨c,y3⟩:=z;obtain⟨z,hz4⟩:∃z,y3.props v 2=z:=⟨_,rfl⟩
 obtain⟨L,y4⟩:=z;have e:qx6n v x=({Pk.zero with kind:=2,session:=f==1,code:=(c:Int),props:=L},y4):=by unfold qx6n;simp only[hz,hy2,hz3,hz4]
 rw[e];have O1:=fun W (h:CsAt W cb s x)=>qevs (v:=v) hm h;have O2:=fun W (h:CsAt W cb s y2)=>qevs (v:=v) hm h;have PR:=fun W (h:CsAt W cb s y3)=>q5sz (v:=v) 2 (by decide) (by decide) hm h;have RQ:=fun W (h:CsAt W cb s y1)=>qr75 (v:=v) (decide (f<=1)) 7 h;have ey2:(if decide (f<=1) then y1 else y1.fail 7)=y2:=by
  rw[<-hy2];by_cases h1:f<=1
  ·rw[decide_eq_true h1,if_pos rfl,if_neg (by omega)]
  ·rw[decide_eq_false h1,if_neg (by decide),if_pos (by omega)]
 have hb1:=q1g9 f hf;rw[hz] at O1;rw[hz3] at O2;rw[hz4] at PR;rw[ey2] at RQ;generalize decide (f<=1)=b at *;have hc0:(f:Int)<256:=by have:f<256:=hf;omega
 have hs1:((f:Int)==1)=(f==1):=by
  by_cases h1:f=1
  ·subst h1;rfl
  ·rw[beq_eq_false_iff_ne.2 h1,beq_eq_false_iff_ne.2 (by omega)]
 generalize (f==1)=se at *;obtain⟨D,hD⟩:∃D,pkC {Pk.zero with kind:=2,session:=se} adZ=D:=⟨_,rfl⟩
 have hD1:=qwmp {Pk.zero with kind:=2,session:=se} adZ;have hD2:=qmz0 {Pk.zero with kind:=2,session:=se} adZ;rw[hD] at hD1 hD2;have HD:=hid hD;have HD1:=hid hD1;have HD2:=hid hD2;have HZ:=hid qbwp;have hzv:=qrai;have hne:¬pkZ=#[]:=by intro h;have:=qbwp;rw[h] at this;cases this
 have O1:=hid O1;have O2:=hid O2;have PR:=hid PR;have RQ:=hid RQ;unfold rdrV at *;clear hf hz hy2 hz3 hz4 e ey2 h hD hD1 hD2;go_in;have c0:=S0.out.c0;have c1:=S0.out.c1;go_wp2_with fail;refine(O1.out _ S0.out.cs).mono ?_;rintro e W1 ⟨rfl,hc,hg⟩;have S1:=hid (S0.out.call hc hg);clear hc hg c0 c1;have c0:=S1.out.c0;have c1:=S1.out.c1;go_wp2_with fail;refine(RQ.out _ S1.out.cs).mono ?_;rintro e W2 ⟨rfl,hc,hg⟩;have S2:=hid (S1.out.call hc hg);clear hc hg c0 c1;have SP:=hid (ReS.laid S2.out HD.out rfl rfl);have c0:=SP.out.rk.c0;have c1:=SP.out.rk.c1;go_wp2_with (first
  |(refine wpList_buildTo rfl 38 _ rfl (some 14) rfl D (by rw[<-HD.out];kernel_rfl) ?_)
  |(refine wpList_store_row rfl _ _ _ rfl W2.heap.size D rfl rfl 38 _ (heap_alloc_new W2 _) (by rw[HD1.out];exact q5nr) (by rw[HZ.out,HD1.out]) HD2.out ?_))
 refine(O2.out _ SP.out.rk.cs).mono ?_;rintro e W3 ⟨rfl,hc,hg⟩;have S3:=hid (SP.out.call hc hg);clear hc hg c0 c1;generalize W2.heap.size=B at *;have S4:=hid (S3.out.put 21 (.int .i64 (c:Int)) (P':={Pk.zero with kind:=2,session:=se,code:=(c:Int)}) rfl rfl rfl);have n21:W3.cell? ⟨B,21,none⟩=some (.int .i64 0):=S3.out.cell 21;have f21:=S3.out.fr 21;have c0:=S4.out.rk.c0;have c1:=S4.out.rk.c1;go_wp2_with fail;clear n21 f21;refine(PR.out _ S4.out.rk.cs).mono ?_;rintro e W5 ⟨⟨A,cc,rfl,hl,hP,hA⟩,ok,h1000,hc,hg⟩;have hBW:=lt_of_block S4.out.pk;have S5:=hid (S4.out.call hc hg);have S6:=hid (S5.out.putPs hP hl (fun g i e=>Nat.lt_trans hBW (hA g i e)));clear hc hg c0 c1 hP hl hA hBW ok h1000;have n24:W5.cell? ⟨B,24,none⟩=some (.slice none 0 0):=S5.out.cell 24;have f24:=S5.out.fr 24;have G6:=S6.out.pk;have hE1:=qwmp {Pk.zero with kind:=2,session:=se,code:=(c:Int),props:=L} {adZ with ps:=A,pc:=cc};have hE2:=qmz0 {Pk.zero with kind:=2,session:=se,code:=(c:Int),props:=L} {adZ with ps:=A,pc:=cc};have GR:=hid S6.out.rk.rs;have RT:=S6.out.ret (pkC {Pk.zero with kind:=2,session:=se,code:=(c:Int),props:=L} {adZ with ps:=A,pc:=cc});obtain⟨E,hE⟩:∃E,pkC {Pk.zero with kind:=2,session:=se,code:=(c:Int),props:=L} {adZ with ps:=A,pc:=cc}=E:=⟨_,rfl⟩
 change q563 w cb s y4 _ (.returned (.agg (pkC {Pk.zero with kind:=2,session:=se,code:=(c:Int),props:=L} {adZ with ps:=A,pc:=cc}))) _ at RT;change _=some (Obj.cells (pkC {Pk.zero with kind:=2,session:=se,code:=(c:Int),props:=L} {adZ with ps:=A,pc:=cc}) _ _) at G6;rw[hE] at hE1 hE2 G6 RT;have HE1:=hid hE1;have HE2:=hid hE2;have G6:=hid G6;have RT:=hid RT;clear hE1 hE2 hE;go_wp2_with (first
  |(refine wpList_load_row rfl _ _ rfl B rfl 38 E (0,0) _ G6.out underlying38 rfl (by rw[HE1.out];exact q5nr) ?_)
  |(refine wpList_store_row rfl _ _ _ rfl (w.heap.size+1) E rfl rfl 38 _ GR.out (by rw[HE1.out];exact q5nr) (by rw[HZ.out,HE1.out]) HE2.out ?_))
 exact q7wi (cs:=E) rfl rfl rfl underlying38 rfl (by rw[HE1.out];exact q5nr) (setRow_heap _ _ _ _ _ _ GR.out) RT.out
end
section
variable{w W W':World}{cb:Nat}{s:ByteArray}{x:Cs}{v:Int}
theorem qu7y(x:Cs):(if ((bs (x.take 6).1).toList==[0,4,77,81,84,84]) then(x.take 6).2 else(x.take 6).2.fail 5)=x.name:=by
 rw[qz9v,q0c6];unfold Cs.name;have e6:enc2 q1f4=[0,4,77,81,84,84]:=by decide
 rw[e6];simp only[beq_eq_false_iff_ne]
theorem q11j(x:Cs)(v:Int):(if (((x.num 1).1:Nat):Int)==v then(x.num 1).2 else(x.num 1).2.fail 5)=x.vers v:=by rw[qz9v];unfold Cs.vers;simp only[beq_eq_false_iff_ne]
theorem q822(hm:s.size<=9223372036854775807)(h:CsAt w cb s x) :
 Calls prog 155 #[rdrV cb v] w (q563 w cb s (qnld v x).2 (qnld v x).1):=by
 have S0:=hid (RkS.made (v:=v) h);obtain⟨z,hz5⟩:∃z,(x.name.vers v).flags v=z:=⟨_,rfl⟩
 have hf:z.1<256:=by rw[<-hz5];exact qunn _
 obtain⟨f,x5⟩:=z;obtain⟨z,hz6⟩:∃z,x5.num 2=z:=⟨_,rfl⟩
 have hk:z.1<65536:=by rw[<-hz6];exact q0ph _ 2 (by decide)
 obtain⟨k,x6⟩:=z;obtain⟨z,hz7⟩:∃z,x6.props v 1=z:=⟨_,rfl⟩
 obtain⟨L,x7⟩:=z;obtain⟨z,hz8⟩:∃z,x7.text=z:=⟨_,rfl⟩
 obtain⟨ct,x8⟩:=z;obtain⟨z,hz9⟩:∃z,x8.optP (f / 4%2==1) v 16=z:=⟨_,rfl⟩
 obtain⟨Lw,x9⟩:=z;obtain⟨z,hz10⟩:∃z,x9.optT (f / 4%2==1)=z:=⟨_,rfl⟩
 obtain⟨wt,x10⟩:=z;obtain⟨z,hz11⟩:∃z,x10.optB (f / 4%2==1)=z:=⟨_,rfl⟩
 obtain⟨wd,x11⟩:=z;obtain⟨z,hz12⟩:∃z,x11.optT (f / 128%2==1)=z:=⟨_,rfl⟩
 obtain⟨us,x12⟩:=z;obtain⟨z,hz13⟩:∃z,x12.optB (f / 64%2==1)=z:=⟨_,rfl⟩
 obtain⟨pa,x13⟩:=z;rw[qy6q v x hz5 hz6 hz7 hz8 hz9 hz10 hz11 hz12 hz13];have TK:=fun W (h:CsAt W cb s x)=>qgtr 6 hm h;have R1:=fun W (h:CsAt W cb s (x.take 6).2)=>qr75 (v:=v) ((bs (x.take 6).1).toList==[0,4,77,81,84,84]) 5 h;rw[qu7y] at R1;obtain⟨b1,hb1⟩:∃b,((bs (x.take 6).1).toList==[0,4,77,81,84,84])=b:=⟨_,rfl⟩
 rw[hb1] at R1;generalize x.name=x2 at *;generalize x.take 6=t6 at *;obtain⟨T,x1⟩:=t6;have OC:=fun W (h:CsAt W cb s x2)=>qevs (v:=v) hm h;have R2:=fun W (h:CsAt W cb s (x2.num 1).2)=>qr75 (v:=v) ((((x2.num 1).1:Nat):Int)==v) 5 h;rw[q11j] at R2;obtain⟨b2,hb2⟩:∃b,((((x2.num 1).1:Nat):Int)==v)=b:=⟨_,rfl⟩
 rw[hb2] at R2;generalize x2.vers v=x4 at *;generalize x2.num 1=n1 at *;obtain⟨nv,x3⟩:=n1;have FL:=fun W (h:CsAt W cb s x4)=>qb3g (v:=v) hm h;have NM:=fun W (h:CsAt W cb s x5)=>q8yf 2 (by decide) hm h;have PR:=fun W (h:CsAt W cb s x6)=>q5sz (v:=v) 1 (by decide) (by decide) hm h;have TX:=fun W (h:CsAt W cb s x7)=>qt5a (v:=v) hm h;rw[hz5] at FL;rw[hz6] at NM;rw[hz7] at PR;rw[hz8] at TX;have WP:=fun W (h:CsAt W cb s x8)=>q5sz (v:=v) 16 (by decide) (by decide) hm h;have WT:=fun W (h:CsAt W cb s x9)=>qt5a (v:=v) hm h;have WD:=fun W (h:CsAt W cb s x10)=>q932 (v:=v) hm h;have UT:=fun W (h:CsAt W cb s x11)=>qt5a (v:=v) hm h;have PD:=fun W (h:CsAt W cb s x12)=>q932 (v:=v) hm h;unfold q8ku at FL;simp only at hf hk ⊢ FL NM PR TX;generalize (f / 2%2==1)=cl at *;generalize (f / 128%2==1)=hu at *;generalize (f / 64%2==1)=ha at *;generalize (f / 4%2==1)=hw at *;generalize (f / 32%2==1)=re at *;generalize ((f / 8%4:Nat):Int)=q at *;have hk0:(0:Int)<=k:=by omega
 have hk1:(k:Int)<65536:=by omega
 obtain⟨D,hD⟩:∃D,pkC (qvmk cl hu ha hw re q) adZ=D:=⟨_,rfl⟩
 have hD1:=qwmp (qvmk cl hu ha hw re q) adZ;have hD2:=qmz0 (qvmk cl hu ha hw re q) adZ;rw[hD] at hD1 hD2 FL;have HD:=hid hD;have HD1:=hid hD1;have HD2:=hid hD2;have HZ:=hid qbwp;have hzv:=qrai;have hne:¬pkZ=#[]:=by intro h;have:=qbwp;rw[h] at this;cases this
 have TK:=hid TK;have R1:=hid R1;have OC:=hid OC;have R2:=hid R2;have FL:=hid FL;have NM:=hid NM;have PR:=hid PR;have TX:=hid TX;have WP:=hid WP;have WT:=hid WT;have WD:=hid WD;have UT:=hid UT;have PD:=hid PD;have Z9:=hid hz9;have Z10:=hid hz10;have Z11:=hid hz11;have Z12:=hid hz12;have Z13:=hid hz13;have B1:=hid hb1;have B2:=hid hb2;unfold rdrV at *;clear hf hk h hD hD1 hD2 hz5 hz6 hz7 hz8 hz9 hz10 hz11 hz12 hz13 hb1 hb2;go_in
 go_upto_region 1 with fail
 refine qjsk (S:=fun u W=>match u with
  |(false,false)=>RkS w cb s v x W
  |(true,false)=>RkS w cb s v x1 W
  |(true,true)=>RkS w cb s v x2 W
  |(false,true)=>False) (B:=w.heap.size) (t:=bs T) (b:=b1) S0.out.drew (fun u W h=>by obtain⟨u1,u2⟩:=u;cases u1<;>cases u2<;>first|exact h.c0|exact h.elim) (fun u W h=>by obtain⟨u1,u2⟩:=u;cases u1<;>cases u2<;>first|exact h.c1|exact h.elim) B1.out
  (fun u W h hu=>by
   obtain⟨u1,u2⟩:=u;cases hu;cases u2
   ·exact(TK.out W h.cs).mono fun e w' ⟨he,hc,hg⟩=>⟨he,h.call hc hg⟩
   ·exact h.elim)
  (fun u W h hu1 hu2=>by obtain⟨u1,u2⟩:=u;cases hu1;cases hu2;exact(R1.out W h.cs).mono fun e w' ⟨he,hc,hg⟩=>⟨he,h.call hc hg⟩) ?_
 intro W1 hS;have S1:=hid (show RkS w cb s v x2 W1 from hS);clear hS
 go_upto_region 2 with fail
 refine q2os (S:=fun u W=>match u with
  |(false,false)=>RkS w cb s v x2 W
  |(true,false)=>RkS w cb s v x3 W
  |(true,true)=>RkS w cb s v x4 W
  |(false,true)=>False) (B:=w.heap.size) (n:=(nv:Int)) (b:=b2) S1.out.drew (fun u W h=>by obtain⟨u1,u2⟩:=u;cases u1<;>cases u2<;>first|exact h.c0|exact h.elim) (fun u W h=>by obtain⟨u1,u2⟩:=u;cases u1<;>cases u2<;>first|exact h.c1|exact h.elim) B2.out
  (fun u W h hu=>by
   obtain⟨u1,u2⟩:=u;cases hu;cases u2
   ·exact(OC.out W h.cs).mono fun e w' ⟨he,hc,hg⟩=>⟨he,h.call hc hg⟩
   ·exact h.elim)
  (fun u W h hu1 hu2=>by obtain⟨u1,u2⟩:=u;cases hu1;cases hu2;exact(R2.out W h.cs).mono fun e w' ⟨he,hc,hg⟩=>⟨he,h.call hc hg⟩) ?_
 intro W2 hS;have S2:=hid (show RkS w cb s v x4 W2 from hS);clear hS;have c0:=S2.out.c0;have c1:=S2.out.c1;go_wp2_with fail;refine(FL.out _ S2.out.cs).mono ?_;rintro e W3 ⟨rfl,hc,hg⟩;have S3:=hid (S2.out.call hc hg);clear hc hg c0 c1;have SP:=hid (ReS.laid S3.out HD.out rfl rfl);have c0:=SP.out.rk.c0;have c1:=SP.out.rk.c1;go_wp2_with (first
  |(refine wpList_store_row rfl _ _ _ rfl W3.heap.size D rfl rfl 38 _ (heap_alloc_new W3 _) (by rw[HD1.out];exact q5nr) (by rw[HZ.out,HD1.out]) HD2.out ?_))
 refine(NM.out _ SP.out.rk.cs).mono ?_;rintro e W4 ⟨rfl,hc,hg⟩;have S4:=hid (SP.out.call hc hg);clear hc hg c0 c1;generalize W3.heap.size=B at *;have S5:=hid (S4.out.put 8 (.int .i64 (k:Int)) (P':={(qvmk cl hu ha hw re q) with keep:=(k:Int)}) rfl rfl rfl);have n8:W4.cell? ⟨B,8,none⟩=some (.int .i64 0):=S4.out.cell 8;have f8:=S4.out.fr 8;have c0:=S5.out.rk.c0;have c1:=S5.out.rk.c1;go_wp2_with fail;clear n8 f8;refine(PR.out _ S5.out.rk.cs).mono ?_;rintro e W6 ⟨⟨A,cc,rfl,hl,hP,hA⟩,ok,h1000,hc,hg⟩;have hBW:=lt_of_block S5.out.pk;have S6:=hid (S5.out.call hc hg);have S7:=hid (S6.out.putPs hP hl (fun g i e=>Nat.lt_trans hBW (hA g i e)));clear hc hg c0 c1 hP hl hA hBW ok h1000;have n24:W6.cell? ⟨B,24,none⟩=some (.slice none 0 0):=S6.out.cell 24;have f24:=S6.out.fr 24;have c0:=S7.out.rk.c0;have c1:=S7.out.rk.c1;go_wp2_with fail;clear n24 f24;refine(TX.out _ S7.out.rk.cs).mono ?_;rintro e W8 ⟨rfl,hc,hg⟩;have S8:=hid (show ReS w cb s v B x8 {(qvmk cl hu ha hw re q) with keep:=(k:Int),props:=L} {adZ with ps:=A,pc:=cc} W8 from S7.out.call hc hg);clear hc hg c0 c1;have S9:=hid (S8.out.put 9 (.string (bs ct)) (P':={(qvmk cl hu ha hw re q) with keep:=(k:Int),props:=L,client:=ct}) rfl rfl rfl);have n9:W8.cell? ⟨B,9,none⟩=some (.string ⟨#[]⟩):=S8.out.cell 9;have f9:=S8.out.fr 9;have k14:(W8.setCell ⟨B,9,none⟩ (.string (bs ct))).cell? ⟨B,14,none⟩=some (.bool hw):=S9.out.cell 14
 go_upto_if 31 with fail
 clear n9 f9;generalize W8.setCell ⟨B,9,none⟩ (.string (bs ct))=W9 at *;go_cut [] (fun wx=>∃a2,ReS w cb s v B x11 {(qvmk cl hu ha hw re q) with keep:=(k:Int),props:=L,client:=ct,wProps:=Lw,wTopic:=wt,wPayload:=wd} a2 wx)
 case first=>
  cases hw with
  |false=>
   have z9:x8.optP false v 16=(Lw,x9):=Z9.out;have z10:x9.optT false=(wt,x10):=Z10.out;have z11:x10.optB false=(wd,x11):=Z11.out;obtain⟨rfl,rfl⟩:=Prod.mk.inj z9;obtain⟨rfl,rfl⟩:=Prod.mk.inj z10;obtain⟨rfl,rfl⟩:=Prod.mk.inj z11;have SF:=hid S9.out;go_wp2_with fail
   go_meet
   exact⟨{adZ with ps:=A,pc:=cc},SF.out⟩
  |true=>
   have WPx:=fun W h=>WP.out W h;have WTx:=fun W h=>WT.out W h;have WDx:=fun W h=>WD.out W h;rw[show x8.props v 16=(Lw,x9) from Z9.out] at WPx;rw[show x9.text=(wt,x10) from Z10.out] at WTx;rw[show x10.bin=(wd,x11) from Z11.out] at WDx;have WPx:=hid WPx;have WTx:=hid WTx;have WDx:=hid WDx;have c0:=S9.out.rk.c0;have c1:=S9.out.rk.c1;go_wp2_with fail;refine(WPx.out _ S9.out.rk.cs).mono ?_;rintro e W10 ⟨⟨A2,cc2,rfl,hl,hP,hA⟩,ok,h1000,hc,hg⟩;have hBW:=lt_of_block S9.out.pk;have S10:=hid (S9.out.call hc hg);have S11:=hid (S10.out.putWs hP hl (fun g i e=>Nat.lt_trans hBW (hA g i e)));clear hc hg c0 c1 hP hl hA hBW ok h1000 k14;have n19:W10.cell? ⟨B,19,none⟩=some (.slice none 0 0):=S10.out.cell 19;have f19:=S10.out.fr 19;have c0:=S11.out.rk.c0;have c1:=S11.out.rk.c1;go_wp2_with fail;clear n19 f19;refine(WTx.out _ S11.out.rk.cs).mono ?_;rintro e W12 ⟨rfl,hc,hg⟩;have S12:=hid (show ReS w cb s v B x10 {(qvmk cl hu ha true re q) with keep:=(k:Int),props:=L,client:=ct,wProps:=Lw} {adZ with ps:=A,pc:=cc,w:=A2,wc:=cc2} W12 from S11.out.call hc hg);clear hc hg c0 c1;have S13:=hid (S12.out.put 15 (.string (bs wt)) (P':={(qvmk cl hu ha true re q) with keep:=(k:Int),props:=L,client:=ct,wProps:=Lw,wTopic:=wt}) rfl rfl rfl);have n15:W12.cell? ⟨B,15,none⟩=some (.string ⟨#[]⟩):=S12.out.cell 15;have f15:=S12.out.fr 15;have c0:=S13.out.rk.c0;have c1:=S13.out.rk.c1;go_wp2_with fail;clear n15 f15;refine(WDx.out _ S13.out.rk.cs).mono ?_;rintro e W14 ⟨rfl,hc,hg⟩;have S14:=hid (S13.out.call hc hg);clear hc hg c0 c1;have S15:=hid (S14.out.put 16 (.string (bs wd)) (P':={(qvmk cl hu ha true re q) with keep:=(k:Int),props:=L,client:=ct,wProps:=Lw,wTopic:=wt,wPayload:=wd}) rfl rfl rfl);have n16:W14.cell? ⟨B,16,none⟩=some (.string ⟨#[]⟩):=S14.out.cell 16;have f16:=S14.out.fr 16;go_wp2_with fail
   go_meet
   exact⟨{adZ with ps:=A,pc:=cc,w:=A2,wc:=cc2},S15.out⟩
 case rest=>
  obtain⟨a2,hS⟩:=hcut;have S16:=hid hS;clear hS k14;have k10:wc.cell? ⟨B,10,none⟩=some (.bool hu):=S16.out.cell 10
  go_upto_if 45 with fail
  go_cut [] (fun wx=>ReS w cb s v B x12 {(qvmk cl hu ha hw re q) with keep:=(k:Int),props:=L,client:=ct,wProps:=Lw,wTopic:=wt,wPayload:=wd,user:=us} a2 wx)
  case first=>
   cases hu with
   |false=>
    have z12:x11.optT false=(us,x12):=Z12.out;obtain⟨rfl,rfl⟩:=Prod.mk.inj z12;have SF:=hid S16.out;go_wp2_with fail
    go_meet
    exact SF.out
   |true=>
    have UTx:=fun W h=>UT.out W h;rw[show x11.text=(us,x12) from Z12.out] at UTx;have UTx:=hid UTx;have c0:=S16.out.rk.c0;have c1:=S16.out.rk.c1;go_wp2_with fail;refine(UTx.out _ S16.out.rk.cs).mono ?_;rintro e W12 ⟨rfl,hc,hg⟩;have S17:=hid (S16.out.call hc hg);clear hc hg c0 c1 k10;have S18:=hid (S17.out.put 11 (.string (bs us)) (P':={(qvmk cl true ha hw re q) with keep:=(k:Int),props:=L,client:=ct,wProps:=Lw,wTopic:=wt,wPayload:=wd,user:=us}) rfl rfl rfl);have n11:W12.cell? ⟨B,11,none⟩=some (.string ⟨#[]⟩):=S17.out.cell 11;have f11:=S17.out.fr 11;go_wp2_with fail
    go_meet
    exact S18.out
  case rest=>
   clear k10 S16;have S16:=hid hcut;clear hcut;have k12:wc.cell? ⟨B,12,none⟩=some (.bool ha):=S16.out.cell 12
   go_upto_if 50 with fail
   go_cut [] (fun wx=>ReS w cb s v B x13 {(qvmk cl hu ha hw re q) with keep:=(k:Int),props:=L,client:=ct,wProps:=Lw,wTopic:=wt,wPayload:=wd,user:=us,pass:=pa} a2 wx)
   case first=>
    cases ha with
    |false=>
     have z13:x12.optB false=(pa,x13):=Z13.out;obtain⟨rfl,rfl⟩:=Prod.mk.inj z13;have SF:=hid S16.out;go_wp2_with fail
     go_meet
     exact SF.out
    |true=>
     have PDx:=fun W h=>PD.out W h;rw[show x12.bin=(pa,x13) from Z13.out] at PDx;have PDx:=hid PDx;have c0:=S16.out.rk.c0;have c1:=S16.out.rk.c1;go_wp2_with fail;refine(PDx.out _ S16.out.rk.cs).mono ?_;rintro e W12 ⟨rfl,hc,hg⟩;have S17:=hid (S16.out.call hc hg);clear hc hg c0 c1 k12;have S18:=hid (S17.out.put 13 (.string (bs pa)) (P':={(qvmk cl hu true hw re q) with keep:=(k:Int),props:=L,client:=ct,wProps:=Lw,wTopic:=wt,wPayload:=wd,user:=us,pass:=pa}) rfl rfl rfl);have n13:W12.cell? ⟨B,13,none⟩=some (.string ⟨#[]⟩):=S17.out.cell 13;have f13:=S17.out.fr 13;go_wp2_with fail
     go_meet
     exact S18.out
   case rest=>
    clear k12 S16;have SX:=hid hcut;clear hcut;have G6:=SX.out.pk;have hE1:=qwmp {(qvmk cl hu ha hw re q) with keep:=(k:Int),props:=L,client:=ct,wProps:=Lw,wTopic:=wt,wPayload:=wd,user:=us,pass:=pa} a2;have hE2:=qmz0 {(qvmk cl hu ha hw re q) with keep:=(k:Int),props:=L,client:=ct,wProps:=Lw,wTopic:=wt,wPayload:=wd,user:=us,pass:=pa} a2;have GR:=hid SX.out.rk.rs;have RT:=SX.out.ret (pkC {(qvmk cl hu ha hw re q) with keep:=(k:Int),props:=L,client:=ct,wProps:=Lw,wTopic:=wt,wPayload:=wd,user:=us,pass:=pa} a2);obtain⟨E,hE⟩:∃E,pkC {(qvmk cl hu ha hw re q) with keep:=(k:Int),props:=L,client:=ct,wProps:=Lw,wTopic:=wt,wPayload:=wd,user:=us,pass:=pa} a2=E:=⟨_,rfl⟩
    change q563 w cb s _ _ (.returned (.agg (pkC {(qvmk cl hu ha hw re q) with keep:=(k:Int),props:=L,client:=ct,wProps:=Lw,wTopic:=wt,wPayload:=wd,user:=us,pass:=pa} a2))) _ at RT;change _=some (Obj.cells (pkC {(qvmk cl hu ha hw re q) with keep:=(k:Int),props:=L,client:=ct,wProps:=Lw,wTopic:=wt,wPayload:=wd,user:=us,pass:=pa} a2) _ _) at G6;rw[hE] at hE1 hE2 G6 RT;have HE1:=hid hE1;have HE2:=hid hE2;have G6:=hid G6;have RT:=hid RT;clear hE1 hE2 hE;go_wp2_with (first
     |(refine wpList_load_row rfl _ _ rfl B rfl 38 E (0,0) _ G6.out underlying38 rfl (by rw[HE1.out];exact q5nr) ?_)
     |(refine wpList_store_row rfl _ _ _ rfl (w.heap.size+1) E rfl rfl 38 _ GR.out (by rw[HE1.out];exact q5nr) (by rw[HZ.out,HE1.out]) HE2.out ?_))
    exact q7wi (cs:=E) rfl rfl rfl underlying38 rfl (by rw[HE1.out];exact q5nr) (setRow_heap _ _ _ _ _ _ GR.out) RT.out
end
theorem qlag(v:Int)(p:Pk):q1ra v p=
 if (qyjk v p.kind).2≠0 then(qyjk v p.kind).2
 else if (decide (p=qfkc (qyjk v p.kind).1 p)&&(!(qyjk v p.kind).1 || mayR p.kind p.code))=false then 2
 else qpyu p.kind p.props:=by
 unfold q1ra qyjk;by_cases h1:(versC v&&q5t0 p.kind)=false
 ·rw[if_pos h1,if_pos h1];rfl
 rw[if_neg h1,if_neg h1];by_cases h2:p.kind=15/\v=4
 ·rw[if_pos h2,if_pos h2];rfl
 rw[if_neg h2,if_neg h2];simp only[ne_eq,not_true_eq_false,if_false];rw[qt8s,Bool.not_not];by_cases h3:(decide (p=qfkc (!q6gd v p.kind) p)&&(q6gd v p.kind || mayR p.kind p.code))=false
 ·rw[if_pos h3,if_pos h3]
 rw[if_neg h3,if_neg h3];unfold rightC;by_cases h5:v=5
 ·rw[if_pos h5]
 rw[if_neg h5];rw[Bool.not_eq_false,Bool.and_eq_true] at h1 h3;simp only[versC,q5t0,Bool.or_eq_true,Bool.and_eq_true,beq_iff_eq,decide_eq_true_eq] at h1;have hp:q6gd v p.kind=true:=by
  cases hp:q6gd v p.kind with
  |true=>rfl
  |false=>exact absurd (qm9l h1.2 h1.1 h2 hp) h5
 have hu:=of_decide_eq_true h3.1;rw[hp] at hu
 have:p.props=[]:=by rw[hu];rfl
 rw[this];rfl
theorem qcuz(v:Int)(p:Pk)(a:Ad)(w:World)(hp:PkAt w p a)(sp:q21o p)(ok:PkOk p)(hc:p.props.length<=a.pc):Calls prog 143 #[.int .i64 v,.agg (pkC p a)] w fun e w'=>e=.returned (.int .i64 (q1ra v p:Nat))/\Below w.heap.size w w':=by
 have S0:=hid (BxS.made w p a);have C1:=hid (qwmp p a);have TL:=hid (fun W (h:BxS w p a W)=>(qkgbp v p.kind W ok.kind.1 ok.kind.2).mono fun e W' hh=>(⟨hh.1,h.call hh.2⟩:_/\BxS w p a W'));have FI:=fun W (h:BxS w p a W)=>(qqfg (qyjk v p.kind).1 p a W (hp.below h.low) sp).mono fun e W' hh=>(⟨hh.1,h.call hh.2⟩:_/\BxS w p a W')
 have VA:=hid (fun W (h:BxS w p a W)=>(qirc p.kind a.ps p.props.length a.pc p.props W ok.kind.1 ok.kind.2 (hp.below h.low).ps rfl hc (fun x hx=>(ok.pps x hx).1)).mono fun e W' hh=>(⟨hh.1,h.call hh.2⟩:_/\BxS w p a W'));have k0:∀W,BxS w p a W->W.cell? ⟨w.heap.size,0,none⟩=some (.int .i64 p.kind):=fun W h=>h.cell 0;have k24:∀W,BxS w p a W->W.cell? ⟨w.heap.size,24,none⟩=some (.slice a.ps p.props.length a.pc):=fun W h=>h.cell 24;have K0:=hid k0;have K24:=hid k24;clear k0 k24;rw[qlag];generalize qyjk v p.kind=T at *;obtain⟨t,q⟩:=T;simp only at FI TL ⊢;generalize qpyu p.kind p.props=z at *;generalize (decide (p=qfkc t p)&&(!t || mayR p.kind p.code))=f at *;have FI:=hid FI;clear hp sp ok hc;have k0:(w.alloc (.cells (pkC p a) 38)).cell? ⟨w.heap.size,0,none⟩=some (.int .i64 p.kind):=K0.out _ S0.out;by_cases hq:q=0
 ·subst hq;rw[if_neg (by simp)];cases f with
  |false=>rw[if_pos rfl];go_in;go_wp2_with fail;refine(TL.out _ S0.out).mono ?_;rintro e W ⟨rfl,hb⟩;have S1:=hid hb;clear hb S0 k0;go_wp2_with (refine wpList_load_row rfl _ _ rfl w.heap.size rfl 38 _ (0,0) _ S1.out.box underlying38 rfl (by rw[C1.out];exact q5nr) ?_);refine(FI.out _ S1.out).mono ?_;rintro e W2 ⟨rfl,hb⟩;have LO:=hid hb.low;clear hb;go_wp2;go_ret;exact⟨rfl,LO.out⟩
  |true=>rw[if_neg (by decide)];go_in;go_wp2_with fail;refine(TL.out _ S0.out).mono ?_;rintro e W ⟨rfl,hb⟩;have S1:=hid hb;clear hb S0 k0;go_wp2_with (refine wpList_load_row rfl _ _ rfl w.heap.size rfl 38 _ (0,0) _ S1.out.box underlying38 rfl (by rw[C1.out];exact q5nr) ?_);refine(FI.out _ S1.out).mono ?_;rintro e W2 ⟨rfl,hb⟩;have S2:=hid hb;have k0:W2.cell? ⟨w.heap.size,0,none⟩=some (.int .i64 p.kind):=K0.out W2 S2.out;have k24:W2.cell? ⟨w.heap.size,24,none⟩=some (.slice a.ps p.props.length a.pc):=K24.out W2 S2.out;clear hb S1;go_wp2_with fail;refine(VA.out _ S2.out).mono ?_;rintro e W3 ⟨rfl,hb⟩;have LO:=hid hb.low;clear hb;go_wp2;go_ret;exact⟨rfl,LO.out⟩
 ·rw[if_pos hq];have q1:((q:Int)==0)=false:=by simp;omega
  have q2:((q:Int) != 0)=true:=by simp;omega
  clear hq FI VA;go_in;go_wp2_with fail;refine(TL.out _ S0.out).mono ?_;rintro e W ⟨rfl,hb⟩;have LO:=hid hb.low;clear hb S0 k0;go_wp2;go_ret;exact⟨rfl,LO.out⟩
theorem qncj(kind:Int)(l:List Pr):(q5aq kind l).2=qpyu kind l:=by
 unfold q5aq;split
 ·rfl
 ·rename_i h;simp only[ne_eq,Decidable.not_not] at h;exact h.symm
def q62v(x y z:ByteArray):Prop:=x++y=z/\¬9223372036854775807<x.size+y.size
def qrjh(n:Nat):Prop:=(n:Int)<65536
theorem qqt1(kind:Int)(c:Nat)(hc:c<256)(l:List Pr)(hv:qpyu kind l=0) :
 q4py c l kind=if l=[] then(if c=0 then [] else be c 1) else be c 1++(q5aq kind l).1:=by
 have ho:be c 1=[UInt8.ofNat c]:=by simp[be]
 unfold q4py;rw[if_neg (by
  rintro(h|h|h)
  ·omega
  ·omega
  ·exact h hv),ho]
 unfold qzno;by_cases hl:l=[]
 ·by_cases hz:c=0
  ·simp[hl,hz]
  ·simp[hl,hz]
 ·simp[hl]
theorem qvrf(code kind:Int)(A:Option Addr)(n c:Nat)(l:List Pr)(w:World)(hi:-9223372036854775808<=kind)(hj:kind<=9223372036854775807)(hl:PL w A l)(hn:l.length=n)(hc:n<=c)(ok:∀p∈l,PrOk p) :
 Calls prog 144 #[.int .i64 code,.slice A n c,.int .i64 kind] w fun e w'=>e=.returned (.string (bs (q4py code l kind)))/\Below w.heap.size w w':=by
 have BY:=qs01 kind A n c l w hi hj hl hn hc ok;rw[qncj] at BY;by_cases h0:code<0
 ·have e:q4py code l kind=[]:=if_pos (.inl h0);rw[e];have g1:decide (code<0)=true:=decide_eq_true h0;clear e h0 BY hl hn hc ok hi hj;go_in;go_wp2;go_ret;exact⟨rfl,Below.refl _ _⟩
 by_cases h1:255<code
 ·have e:q4py code l kind=[]:=if_pos (.inr (.inl h1));rw[e];have g1:decide (code<0)=false:=decide_eq_false h0;have g2:decide (255<code)=true:=decide_eq_true h1;clear e h0 h1 BY hl hn hc ok hi hj;go_in;go_wp2;go_ret;exact⟨rfl,Below.refl _ _⟩
 obtain⟨k,rfl⟩:∃k:Nat,code=k:=⟨code.toNat,by omega⟩
 have g1:decide ((k:Int)<0)=false:=decide_eq_false h0;have g2:decide (255<(k:Int))=false:=decide_eq_false h1;have hk:k<256:=by omega
 by_cases hv:qpyu kind l=0
 ·rw[qqt1 kind k hk l hv];rw[hv] at BY;have PU:=(fun W=>qe3g k 1 W (by omega))
  rw[show((min (1:Int) 16).toNat)=1 from rfl] at PU;have lt:=qp2i (v:=5) (kind:=kind) (l:=l) (by unfold rightC;rw[if_pos rfl];exact hv);rw[tailC,if_pos rfl] at lt;generalize (q5aq kind l).1=T at *;have e1:bs (be k 1)++bs T=bs (be k 1++T):=qyv7 _ _;have s1:(bs (be k 1++T)).size<=9223372036854775807:=by rw[q5zk,List.length_append,q0rl];omega
  have HK:qrjh k:=show(k:Int)<65536 by omega
  have hnn:l=[]↔n=0:=by rw[<-hn];exact List.length_eq_zero_iff.symm
  have hin:(if l=[] then(if k=0 then [] else be k 1) else be k 1++T)=if n=0 then(if k=0 then [] else be k 1) else be k 1++T:=by
   by_cases h:l=[]
   ·rw[if_pos h,if_pos (hnn.1 h)]
   ·rw[if_neg h,if_neg (fun e=>h (hnn.2 e))]
  rw[hin];clear hin hnn hl hn hc ok hi hj hv h0 h1 hk lt;generalize hx1:bs (be k 1)=X1 at *;generalize hx2:bs T=X2 at *;generalize hx3:bs (be k 1++T)=X3 at *;have E1:q62v X1 X2 X3:=⟨e1,by rw[<-ByteArray.size_append,e1];omega⟩
  have BYH:=hid BY;have PUH:=hid PU;clear e1 s1 BY PU;by_cases hn0:n=0
  ·subst hn0;rw[if_pos rfl];by_cases hk0:k=0
   ·subst hk0;rw[if_pos rfl];clear hx1 hx2 hx3 E1 HK g1 g2;go_in;go_wp2_with fail;refine(BYH.out).mono ?_;rintro e W ⟨rfl,hb⟩;have LO:=hid hb;clear hb;go_wp2;go_ret;exact⟨rfl,LO.out⟩
   ·rw[if_neg hk0,hx1];have g3:((k:Int) != 0)=true:=by simp;omega
    clear hx1 hx2 hx3 E1 hk0;go_in;go_wp2_with fail;refine(BYH.out).mono ?_;rintro e W ⟨rfl,hb⟩;have LO:=hid hb;have hk2:(k:Int)<65536:=HK;clear hb;go_wp2_with fail;refine(PUH.out _).mono ?_;rintro e W2 ⟨rfl,hb⟩;have LO2:=hid (qxh2 LO.out hb);clear hb;go_wp2;go_ret;exact⟨rfl,LO2.out⟩
  ·rw[if_neg hn0,hx3];have g4:0<n:=by omega
   clear hx1 hx2 hx3 hn0;go_in;go_wp2_with fail;refine(BYH.out).mono ?_;rintro e W ⟨rfl,hb⟩;have LO:=hid hb;have hk2:(k:Int)<65536:=HK;clear hb;go_wp2_with fail;refine(PUH.out _).mono ?_;rintro e W2 ⟨rfl,hb⟩;have LO2:=hid (qxh2 LO.out hb);have e1:=E1.1;have t1:=E1.2;clear hb;go_wp2;go_ret;exact⟨rfl,LO2.out⟩
 ·have e:q4py k l kind=[]:=if_pos (.inr (.inr hv));rw[e];generalize qpyu kind l=R at *;have hr1:((R:Int)==0)=false:=by simp;omega
  have hr2:((R:Int) != 0)=true:=by simp;omega
  have BYH:=hid BY;clear e h0 h1 BY hl hn hc ok hi hj hv hk;go_in;go_wp2_with fail;refine(BYH.out).mono ?_;rintro e W ⟨rfl,hb⟩;have LO:=hid hb;clear hb;go_wp2;go_ret;exact⟨rfl,LO.out⟩
theorem qv9d(code kind:Int)(p:Pk)(a:Ad)(w:World)(hp:PkAt w p a)(_:q21o p)(ok:PkOk p)(hc:p.props.length<=a.pc)(hk:-9223372036854775808<=kind/\kind<=9223372036854775807) :
 Calls prog 144 #[.int .i64 code,.slice a.ps p.props.length a.pc,.int .i64 kind] w fun e w'=>e=.returned (.string (bs (q4py code p.props kind)))/\Below w.heap.size w w':=
 qvrf code kind a.ps p.props.length a.pc p.props w hk.1 hk.2 hp.ps rfl hc (fun x hx=>(ok.pps x hx).1)
theorem qck4(v:Int)(p:Pk)(a:Ad)(w:World)(hp:PkAt w p a)(sp:q21o p)(ok:PkOk p)(hc:p.props.length<=a.pc) :
 Calls prog 97 #[.int .i64 v,.agg (pkC p a)] w fun e w'=>e=.returned (.tuple #[.string (bs (q2jl v p).1),.int .i64 ((q2jl v p).2:Nat)])/\Below w.heap.size w w':=by
 have S0:=hid (BxS.made w p a);have C1:=hid (qwmp p a);have VA:=fun W (h:BxS w p a W)=>(qcuz v p a W (hp.below h.low) sp ok hc).mono fun e W' hh=>(⟨hh.1,h.call hh.2⟩:_/\BxS w p a W')
 unfold q2jl;by_cases hv:q1ra v p=0
 ·rw[if_neg (by simpa using hv),(qxi6 hv).1];rw[hv] at VA;have TL:=hid (fun W (h:BxS w p a W)=>(qv9d p.code p.kind p a W (hp.below h.low) sp ok hc ok.kind).mono fun e W' hh=>(⟨hh.1,h.call hh.2⟩:_/\BxS w p a W'));have k0:∀W,BxS w p a W->W.cell? ⟨w.heap.size,0,none⟩=some (.int .i64 p.kind):=fun W h=>h.cell 0;have k21:∀W,BxS w p a W->W.cell? ⟨w.heap.size,21,none⟩=some (.int .i64 p.code):=fun W h=>h.cell 21;have k24:∀W,BxS w p a W->W.cell? ⟨w.heap.size,24,none⟩=some (.slice a.ps p.props.length a.pc):=fun W h=>h.cell 24;have K0:=hid k0;have K21:=hid k21;have K24:=hid k24;have VAH:=hid VA;clear k0 k21 k24 hp sp ok hc hv VA;generalize bs (q4py p.code p.props p.kind)=X at *;go_in;go_wp2_with (refine wpList_load_row rfl _ _ rfl w.heap.size rfl 38 _ (0,0) _ S0.out.box underlying38 rfl (by rw[C1.out];exact q5nr) ?_);refine(VAH.out _ S0.out).mono ?_;rintro e W ⟨rfl,hb⟩;have S1:=hid hb;have k0:W.cell? ⟨w.heap.size,0,none⟩=some (.int .i64 p.kind):=K0.out W S1.out;have k21:W.cell? ⟨w.heap.size,21,none⟩=some (.int .i64 p.code):=K21.out W S1.out;have k24:W.cell? ⟨w.heap.size,24,none⟩=some (.slice a.ps p.props.length a.pc):=K24.out W S1.out;clear hb S0;go_wp2_with fail;refine(TL.out _ S1.out).mono ?_;rintro e W2 ⟨rfl,hb⟩;have LO:=hid hb.low;clear hb;go_wp2
  go_ret2
  exact⟨rfl,LO.out⟩
 ·rw[if_pos hv];generalize q1ra v p=R at *;have hr1:((R:Int)==0)=false:=by simp;omega
  have hr2:((R:Int) != 0)=true:=by simp;omega
  have VAH:=hid VA;clear hv hp sp ok hc VA;go_in;go_wp2_with (refine wpList_load_row rfl _ _ rfl w.heap.size rfl 38 _ (0,0) _ S0.out.box underlying38 rfl (by rw[C1.out];exact q5nr) ?_);refine(VAH.out _ S0.out).mono ?_;rintro e W ⟨rfl,hb⟩;have LO:=hid hb.low;clear hb;go_wp2
  go_ret2
  exact⟨rfl,LO.out⟩
def q300(l:List UInt8):Nat:=match l with|[]=>0|b::_=>b.toNat
def qs8t(kind:Int)(l:List UInt8):List Pr×Nat:=if l.tail=[] then([],0) else((qflw kind l.tail).1,(qflw kind l.tail).2.2)
theorem qiic(kind:Int)(l:List UInt8):q6u6 kind l=((q300 l,(qs8t kind l).1),(qs8t kind l).2):=by
 unfold q6u6 qs8t q300;cases l with
 |nil=>rfl
 |cons b t=>by_cases ht:t=[]<;>simp[ht]
theorem q69d(l:List UInt8):q300 l<256:=by
 unfold q300;cases l with
 |nil=>decide
 |cons b t=>exact b.toNat_lt
theorem qzp7(kind:Int)(l:List UInt8):endK kind l=((if (decide ((q4py (q300 l) (qs8t kind l).1 kind).length<l.length)) then((Cs.mk l.tail 0).fail (qs8t kind l).2).fail 5 else(Cs.mk l.tail 0).fail (qs8t kind l).2)).e:=by
 unfold endK;rw[qiic];simp only;generalize (qs8t kind l).2=f;by_cases h:(q4py (q300 l) (qs8t kind l).1 kind).length<l.length
 ·by_cases hf:f=0
  ·simp[Cs.fail,hf,h]
  ·simp[Cs.fail,hf,h]
 ·by_cases hf:f=0
  ·simp[Cs.fail,hf,h]
  ·simp[Cs.fail,hf,h]
def qv7v(w:World)(R:Pk×Nat)(e:Ending)(W:World):Prop:=
 ∃a:Ad,e=.returned (.tuple #[.agg (pkC R.1 a),.int .i64 (R.2:Nat)])/\PL W a.ps R.1.props/\R.1.props.length<=a.pc/\(∀g i,a.ps=some ⟨g,i,none⟩->w.heap.size<=g)/\Below w.heap.size w W
theorem qtnz(kind:Int)(s:ByteArray)(w:World)(hk0:-9223372036854775808<=kind)(hk1:kind<=9223372036854775807)(hm:s.size<=140737488351232) :
 Calls prog 146 #[.int .i64 kind,.string s] w (qv7v w (pkT kind (q6u6 kind s.data.toList).1.1 (q6u6 kind s.data.toList).1.2,endK kind s.data.toList)):=by
 rw[qzp7,qiic];simp only;have hm9:s.size<=9223372036854775807:=by omega
 have hsz:s.size=s.data.toList.length:=q4ad s;obtain⟨L,hL⟩:∃L,s.data.toList=L:=⟨_,rfl⟩
 rw[hL] at hsz ⊢;have hz:=q69d L;obtain⟨c,hc⟩:∃c,q300 L=c:=⟨_,rfl⟩
 rw[hc] at hz ⊢;obtain⟨⟨l,f⟩,hlf⟩:∃q,qs8t kind L=q:=⟨_,rfl⟩
 rw[hlf];simp only;obtain⟨dd,hdd⟩:∃d,decide ((q4py c l kind).length<L.length)=d:=⟨_,rfl⟩
 rw[hdd];obtain⟨Y2,hY2⟩:∃Y,(Cs.mk L.tail 0).fail f=Y:=⟨_,rfl⟩
 rw[hY2];obtain⟨Y,hY⟩:∃Y,(if dd=true then Y2.fail 5 else Y2)=Y:=⟨_,rfl⟩
 rw[hY];have HDD:=hid hdd;have HY2:=hid hY2;have HY:=hid hY;clear hdd hY2 hY;have LF:=hid (fun(cb:Nat) (z:Cs) W (h:CsAt W cb s z)=>qjtm hm9 h);have NM:=hid (fun(cb:Nat) (z:Cs) W (h:CsAt W cb s z)=>q8yf 1 (by decide) hm9 h);have RS:=hid (fun(cb:Nat) (z:Cs) W (h:CsAt W cb s z)=>qzrp hm9 h);have FL:=hid (fun(cb:Nat) (x:Cs) (g:Nat) W (h:CsAt W cb s x)=>qazj g h);have ER:=hid (fun(cb:Nat) (x:Cs) W (h:CsAt W cb s x)=>q3gp h);have NW:=hid (fun W=>q2gu s W);have hprs:∀p∈l,PrOk p:=by
  unfold qs8t at hlf;split at hlf
  ·cases hlf;exact fun p hp=>(nomatch hp)
  ·cases hlf;exact fun p hp=>((qdz1 _ _).1 p hp).1
 have TL:=hid (fun(A:Option Addr) (n cc:Nat) W (hl:PL W A l) (hn:l.length=n) (hc:n<=cc)=>qvrf c kind A n cc l W hk0 hk1 hl hn hc hprs);obtain⟨D,hD⟩:∃D,pkC (pkT kind 0 []) adZ=D:=⟨_,rfl⟩
 have HD1:=hid (by rw[<-hD];exact qwmp _ _:D.size=25);have HD2:=hid (by rw[<-hD];exact qmz0 _ _:D.all (·.oneCell')=true);have HD:=hid hD;have HZ:=hid qbwp;have hzv:=qrai;have hne:¬pkZ=#[]:=by intro h;have:=qbwp;rw[h] at this;cases this
 have RS0:=hid (heap_alloc_new w (.cells pkZ 38));have ZW:=hid (show(w.alloc (.cells pkZ 38)).heap.size=w.heap.size+1 by simp);have L0:=hid (qybm (w:=w) (.cells pkZ 38));have HL:=hid hL;have HC:=hid hc;have HLF:=hid hlf;have HS:=hid hsz;have HM:=hid hm;have HK:=hid (And.intro hk0 hk1);have HX:=hid hz;clear hD hL hc hlf hsz hm hm9 hk0 hk1 hz hprs;go_in;go_wp2_with fail;generalize w.alloc (.cells pkZ 38)=W0 at *;refine(NW.out _).mono ?_;rintro e W1 ⟨rfl,hcur,hb1,hz1⟩;have C1:=(show CsAt W1 W0.heap.size s ⟨L,0⟩ from⟨0,Nat.zero_le _,hcur,by simpa using HL.out⟩)
 replace C1:=hid C1;have L1:=hid (qxh2 L0.out hb1);have R1:=hid ((hb1.block _ (lt_of_block RS0.out)).trans RS0.out);have S1:=hid (KcS.laid L1.out R1.out (by rw[ZW.out];omega) C1.out HD.out rfl);clear hcur hb1 hz1 C1 L1 R1 RS0 L0 NW;generalize W0.heap.size=cb at *
 go_upto_region 3 with (first
  |(refine wpList_buildTo rfl 38 _ rfl (some _) rfl D (by rw[<-HD.out];kernel_rfl) ?_)
  |(refine wpList_store_row rfl _ _ _ rfl W1.heap.size D rfl rfl 38 _ (heap_alloc_new W1 _) (by rw[HD1.out];exact q5nr) (by rw[HZ.out,HD1.out]) HD2.out ?_))
 generalize W1.heap.size=B at *;generalize (W1.alloc (.cells pkZ 38)).setRow _ D=W2 at *;clear hzv hne;dsimp only[Act.put];obtain⟨g,hg⟩:∃g,decide ((0:Int)<((L.length:Nat):Int))=g:=⟨_,rfl⟩
 have LF1:Calls prog 84 #[.pointer (some ⟨cb,0,none⟩)] W2 fun e w'=>e=.returned (.int .i64 ((L.length:Nat):Int))/\KcS w cb s B ⟨L,0⟩ (pkT kind 0 []) adZ w':=
  (LF.out cb ⟨L,0⟩ W2 S1.out.cs).mono fun e w' ⟨he,n,hn⟩=>⟨he,hn▸S1.out.draws n⟩
 have HG:=hid hg;obtain⟨m,hmm⟩:∃m:Int,((L.length:Nat):Int)=m:=⟨_,rfl⟩
 rw[hmm] at LF1 hg;replace LF1:=hid LF1;clear hmm S1;go_wp2_with fail;refine(LF1.out).mono ?_;rintro e W3 ⟨rfl,hS⟩;have S2:=hid hS;clear hS LF1
 go_upto_if 17 with fail
 clear hg;go_cut [] (fun wx=>KcS w cb s B ⟨L.tail,0⟩ (pkT kind c []) adZ wx)
 case first=>
  have h1:=HG.out;have h2:=HC.out;cases L with
  |nil=>
   have h1:false=g:=by rw[<-h1];rfl
   subst h1;have h2:0=c:=h2;subst h2;go_wp2_with fail
   go_meet
   exact S2.out
  |cons b t=>
   have h1:true=g:=by rw[<-h1];exact(decide_eq_true (by simp only[List.length_cons];omega)).symm
   subst h1;have h2:b.toNat=c:=h2;have N1:=NM.out cb ⟨b::t,0⟩;rw[Cs.num_one,h2] at N1;replace N1:=hid N1;have hc2:(c:Int)<65536:=by have:=HX.out;omega
   have hw:IntKind.i64.wrap (c:Int)=(c:Int):=by rw[IntKind.wrap_i64];omega
   clear h2;go_wp2_with fail;refine(N1.out _ S2.out.cs).mono ?_;rintro e W4 ⟨rfl,hcs,hgr⟩;have S3:=hid (S2.out.call hcs hgr);have n21:W4.cell? ⟨B,21,none⟩=some (.int .i64 0):=S3.out.cell 21;have f21:=S3.out.fr 21;have S4:=hid (S3.out.set 21 (.int .i64 (c:Int)) (P':=pkT kind c []) (a':=adZ) rfl S3.out.ps S3.out.pc S3.out.pf);clear hcs hgr S2;go_wp2_with fail
   go_meet
   exact S4.out
 case rest=>
  have S3:=hid hcut;clear hcut S2 HG
  go_upto_region 5 with fail
  obtain⟨T,hT⟩:∃T,L.tail=T:=⟨_,rfl⟩
  have HLF2:(if T=[] then([],0) else((qflw kind T).1,(qflw kind T).2.2))=(l,f):=by rw[<-hT];exact HLF.out
  have HY2:=HY2.out;rw[hT] at S3 HY2;replace HY2:=hid HY2;replace HLF2:=hid HLF2;have hTl:T.length<=s.size:=by rw[<-hT,List.length_tail,HS.out];omega
  have HTL:=hid hTl;obtain⟨g,hg⟩:∃g,decide ((0:Int)<((T.length:Nat):Int))=g:=⟨_,rfl⟩
  have LF1:Calls prog 84 #[.pointer (some ⟨cb,0,none⟩)] wc fun e w'=>e=.returned (.int .i64 ((T.length:Nat):Int))/\KcS w cb s B ⟨T,0⟩ (pkT kind c []) adZ w':=
   (LF.out cb ⟨T,0⟩ wc S3.out.cs).mono fun e w' ⟨he,n,hn⟩=>⟨he,hn▸S3.out.draws n⟩
  have HG:=hid hg;clear m;obtain⟨m,hmm⟩:∃m:Int,((T.length:Nat):Int)=m:=⟨_,rfl⟩
  rw[hmm] at LF1 hg;replace LF1:=hid LF1;clear hmm S3 HLF hT hTl;go_wp2_with fail;refine(LF1.out).mono ?_;rintro e W4 ⟨rfl,hS⟩;have S4:=hid hS;clear hS LF1
  go_upto_if 24 with fail
  clear hg;go_cut [] (fun wx=>∃a,KcS w cb s B Y2 (pkT kind c l) a wx)
  case first=>
   have h1:=HG.out;have h3:=HLF2.out;cases g with
   |false=>
    have hn:T=[]:=by
     have:=of_decide_eq_false h1
     exact List.length_eq_zero_iff.1 (by omega)
    subst hn;have h3:([],0)=(l,f):=h3;cases h3;have hy:=HY2.out;subst hy;go_wp2_with fail
    go_meet
    exact⟨adZ,S4.out⟩
   |true=>
    have hn:¬T=[]:=by rintro rfl;exact absurd (of_decide_eq_true h1) (by decide)
    rw[if_neg hn] at h3;obtain⟨l',k,f',hq⟩:∃l k f,qflw kind T=(l,k,f):=⟨_,_,_,rfl⟩
    rw[hq] at h3;rw[show l'=l from congrArg Prod.fst h3,show f'=f from congrArg Prod.snd h3] at hq;clear h3;have R1:Calls prog 45 #[.pointer (some ⟨cb,0,none⟩)] W4 fun e w'=>e=.returned (.string (bs T))/\KcS w cb s B ⟨T,0⟩ (pkT kind c []) adZ w':=
     (RS.out cb ⟨T,0⟩ W4 S4.out.cs).mono fun e w' ⟨he,n,hn⟩=>⟨he,hn▸S4.out.draws n⟩
    have RD:=fun W=>q188 kind (bs T) l k f HK.out.1 HK.out.2 (by rw[q5zk];have:=HTL.out;have:=HM.out;omega) hq W;replace R1:=hid R1;replace RD:=hid RD;generalize bs T=X at *;clear h1 hn hq S4 HG;go_wp2_with fail;refine(R1.out).mono ?_;rintro e W5 ⟨rfl,hS⟩;have S5:=hid hS;clear hS R1;go_wp2_with fail;refine(RD.out _).mono ?_;rintro e W6 ⟨hb,A,cc,rfl,hc,hP,-,-,hA⟩;have S6:=hid (S5.out.below hb);have HP:=hid hP;have HCC:=hid hc;have HAA:=hid (fun g i (e:A=some ⟨g,i,none⟩)=>Nat.lt_of_lt_of_le (lt_of_block S5.out.pk) (hA g i e));clear hb hc hP hA S5 RD;go_wp2_with fail;refine(FL.out cb _ f _ S6.out.cs).mono ?_;rintro e W7 ⟨rfl,hcs,hgr⟩;have S7:=hid (S6.out.call hcs hgr);have P7:=hid (HP.out.grown hgr (fun g i e=>by have:=HAA.out g i e;have:=S6.out.hB;omega));have n24:W7.cell? ⟨B,24,none⟩=some (.slice none 0 0):=S7.out.cell 24;have f24:=S7.out.fr 24;have S8:=hid (S7.out.set 24 (.slice A l.length cc) (P':=pkT kind c l) (a':={adZ with ps:=A,pc:=cc}) rfl P7.out HCC.out HAA.out);clear hcs hgr S6;go_wp2_with fail
    go_meet
    rw[<-HY2.out];exact⟨_,S8.out⟩
  case rest=>
   obtain⟨a,hS⟩:=hcut;have S5:=hid hS;clear hS S4 HG HLF2 HY2 NM RS LF
   go_upto_region 9 with fail
   have TLa:Calls prog 144 #[.int .i64 c,.slice a.ps l.length a.pc,.int .i64 kind] wc fun e w'=>e=.returned (.string (bs (q4py c l kind)))/\KcS w cb s B Y2 (pkT kind c l) a w':=
    (TL.out a.ps l.length a.pc wc S5.out.ps rfl S5.out.pc).mono fun e w' ⟨he,hb⟩=>⟨he,S5.out.below hb⟩
   have k21:wc.cell? ⟨B,21,none⟩=some (.int .i64 c):=S5.out.cell 21;have k24:wc.cell? ⟨B,24,none⟩=some (.slice a.ps l.length a.pc):=S5.out.cell 24;have hxs:=q5zk (q4py c l kind);have hdd:=HDD.out;rw[<-hxs,<-HS.out] at hdd;generalize bs (q4py c l kind)=X at *;have hd2:decide ((X.size:Int)<(s.size:Int))=dd:=by rw[<-hdd];congr 1;simp
   have TLH:=hid TLa;clear TLa S5 hxs HDD TL;go_wp2_with fail;refine(TLH.out).mono ?_;rintro e W5 ⟨rfl,hS⟩;have S6:=hid hS;clear hS TLH k21 k24
   go_upto_if 47 with fail
   clear hdd hd2;go_cut [] (fun wx=>KcS w cb s B Y (pkT kind c l) a wx)
   case first=>
    cases dd with
    |true=>
     have FLa:=hid (FL.out cb Y2 5);go_wp2_with fail;refine(FLa.out _ S6.out.cs).mono ?_;rintro e W6 ⟨rfl,hcs,hgr⟩;have S7:=hid (S6.out.call hcs hgr);clear hcs hgr;go_wp2_with fail
     go_meet
     rw[<-HY.out];exact S7.out
    |false=>
     go_wp2_with fail
     go_meet
     rw[<-HY.out];exact S6.out
   case rest=>
    have S7:=hid hcut;clear hcut S6 FL HY;have hx:=qwmp (pkT kind c l) a;have hy:=qmz0 (pkT kind c l) a;have ER2:=hid (fun V (h:KcS w cb s B Y (pkT kind c l) a V)=>ER.out cb Y V h.cs);have RT:=hid (fun V (h:KcS w cb s B Y (pkT kind c l) a V)=>(show qv7v w (pkT kind c l,Y.e) (.returned (.tuple #[.agg (pkC (pkT kind c l) a),.int .i64 (Y.e:Nat)])) (V.setRow w.heap.size (pkC (pkT kind c l) a)) from
     ⟨a,rfl,h.ps.kept (by simp[World.setRow]) (fun g i e _=>setRow_other V w.heap.size g _ (by have:=h.pf g i e;have:=h.hB;have:=h.lt;omega)),h.pc,fun g i e=>by have:=h.pf g i e;have:=h.hB;have:=h.lt;omega,
      q8xz h.low (Nat.le_refl _) _⟩))
    have RS5:=hid (fun V (h:KcS w cb s B Y (pkT kind c l) a V)=>setRow_heap V w.heap.size _ (pkC (pkT kind c l) a) _ _ h.rs);obtain⟨C,hC⟩:∃C,pkC (pkT kind c l) a=C:=⟨_,rfl⟩
    rw[hC] at hx hy RT RS5;have HC1:=hid hx;have HC2:=hid hy;have HCC:=hid hC;clear hx hy hC
    go_upto_region 11 with fail
    refine qeqd (S:=KcS w cb s B Y (pkT kind c l) a) (b:=w.heap.size) (B:=B) (cb:=cb) (f:=(Y.e:Nat)) (C:=C) (S7.out.draws 1) HC1.out HC2.out (by have:=S7.out.hB;have:=S7.out.lt;omega) (fun V h=>by rw[<-HCC.out];exact h.pk) (fun V h=>⟨_,h.rs,qbwp⟩) (fun V h=>ER2.out V h) (fun V h=>ER.out cb Y _ (h.cs.of_block (setRow_other V w.heap.size cb _ (by have:=h.lt;omega)))) ?_;intro V h;have G:=hid (RS5.out V h);have RTV:=hid (RT.out V h);clear h RT RS5;go_wp2_with fail;exact q8iy (cs:=C) rfl rfl rfl rfl underlying38 rfl (by rw[HC1.out];exact q5nr) G.out RTV.out
structure KtS(w:World)(B:Nat)(P:Pk)(a:Ad)(W:World):Prop where
 low:Below w.heap.size w W
 rs:W.heap[w.heap.size]?=some (.cells pkZ 38 (0,0))
 hB:w.heap.size<B
 pk:W.heap[B]?=some (.cells (pkC P a) 38 (0,0))
 at_:PkAt W P a
 pf:∀g i,a.ps=some ⟨g,i,none⟩->w.heap.size<g
theorem KtS.call{w W W':World}{B:Nat}{P:Pk}{a:Ad}(h:KtS w B P a W)(hb:Below W.heap.size W W'):KtS w B P a W':=
 ⟨qxh2 h.low hb,(hb.block _ (lt_of_block h.rs)).trans h.rs,h.hB,(hb.block _ (lt_of_block h.pk)).trans h.pk,h.at_.below hb,h.pf⟩
theorem qh4e{kind:Int}(hk:-9223372036854775808<=kind/\kind<=9223372036854775807)(l:List UInt8):FitA (pkT kind (q6u6 kind l).1.1 (q6u6 kind l).1.2):=by
 refine q0yw hk ?_;rw[qiic];unfold qs8t;split
 ·exact⟨fun p hp=>(nomatch hp),Nat.zero_le _⟩
 ·exact qdz1 _ _
theorem quz6(s:ByteArray):(s.toList==[])=decide (s.data.toList=[]):=by rw[qrze];cases s.data.toList<;>simp
theorem q3lt(v kind:Int)(s:ByteArray)(w:World)(hk0:-9223372036854775808<=kind)(hk1:kind<=9223372036854775807)(hm:s.size<=140737488351232) :
 Calls prog 98 #[.int .i64 v,.int .i64 kind,.string s] w (q2da w (qf4x v kind s.data.toList)):=by
 have HZ:=hid qbwp;have hzv:=qrai;have hne:¬pkZ=#[]:=by intro h;have:=qbwp;rw[h] at this;cases this
 have PZ:Hid (pkZ.all (·.oneCell')=true):=hid (qmz0 Pk.zero adZ);have RZ:=hid (fun(e:Nat) W (hb:Below w.heap.size w W)=>(show q2da w (Pk.zero,e) (.returned (.tuple #[.agg pkZ,.int .i64 (e:Nat)])) (W.setRow w.heap.size pkZ) from⟨adZ,rfl,qa3p _,Nat.zero_le _,qkys,q8xz hb (Nat.le_refl _) _,fun _=>rfl,q16x w⟩));rw[q54j];have TA:=hid (fun W=>qkgbp v kind W hk0 hk1);have R0:=heap_alloc_new w (.cells pkZ 38);have L0:=qybm (w:=w) (.cells pkZ 38);have S0:=hid (And.intro L0 R0);have ST:=hid (fun W W' (h:Below w.heap.size w W/\W.heap[w.heap.size]?=some (.cells pkZ 38 (0,0))) (hb:Below W.heap.size W W')=>(⟨qxh2 h.1 hb,(hb.block _ (lt_of_block h.2)).trans h.2⟩:Below w.heap.size w W'/\W'.heap[w.heap.size]?=some (.cells pkZ 38 (0,0))));clear R0 L0;obtain⟨⟨tl,q0⟩,hT⟩:∃t,qyjk v kind=t:=⟨_,rfl⟩
 rw[hT] at TA ⊢;simp only at TA ⊢;clear hT;by_cases hq:q0=0
 ·subst hq;rw[if_neg (by simp)];by_cases hb0:tl=false/\s.data.toList≠[]
  ·rw[if_pos hb0];obtain⟨rfl,hl⟩:=hb0;have h1:(s.toList==[])=false:=by rw[quz6];exact decide_eq_false hl
   have h2:(s.toList != [])=true:=by rw[bne,h1];rfl
   clear hl hm hk0 hk1;go_in;go_wp2_with fail;refine(TA.out _).mono ?_;rintro e W ⟨rfl,hb⟩;have S1:=hid (ST.out _ _ S0.out hb);clear hb S0;go_wp2_with (first
    |(refine wpList_buildTo rfl 38 _ rfl (some _) rfl pkZ (by kernel_rfl) ?_)
    |(refine wpList_store_row rfl _ _ _ rfl w.heap.size pkZ rfl rfl 38 _ S1.out.2 (by rw[HZ.out];exact q5nr) rfl PZ.out ?_))
   refine q8iy (cs:=pkZ) rfl rfl rfl rfl underlying38 rfl (by rw[HZ.out];exact q5nr) (setRow_heap _ _ _ _ _ _ S1.out.2) ?_;exact RZ.out 5 _ S1.out.1
  rw[if_neg hb0];have hg:tl=true\/tl=false/\(s.toList==[])=true/\(s.toList != [])=false:=by
   cases tl with
   |true=>exact .inl rfl
   |false=>
    have hl:s.data.toList=[]:=by
     by_cases h:s.data.toList=[]
     ·exact h
     ·exact absurd ⟨rfl,h⟩ hb0
    have h1:(s.toList==[])=true:=by rw[quz6];exact decide_eq_true hl
    exact .inr ⟨rfl,h1,by rw[bne,h1];rfl⟩
  have RD:=hid (fun W=>qtnz kind s W hk0 hk1 hm);have FI:=hid (qh4e ⟨hk0,hk1⟩ s.data.toList);have VA:=hid (fun a W (h:PkAt W (pkT kind (q6u6 kind s.data.toList).1.1 (q6u6 kind s.data.toList).1.2) a) (hc:(pkT kind (q6u6 kind s.data.toList).1.1 (q6u6 kind s.data.toList).1.2).props.length<=a.pc)=>qcuz v _ a W h FI.out.2 FI.out.1 hc);have NL:=hid (show(pkT kind (q6u6 kind s.data.toList).1.1 (q6u6 kind s.data.toList).1.2).wProps=[]/\(pkT kind (q6u6 kind s.data.toList).1.1 (q6u6 kind s.data.toList).1.2).codes=[]/\(pkT kind (q6u6 kind s.data.toList).1.1 (q6u6 kind s.data.toList).1.2).filters=[] from⟨rfl,rfl,rfl⟩);have PT:=hid (fun W a (h:PL W a.ps (pkT kind (q6u6 kind s.data.toList).1.1 (q6u6 kind s.data.toList).1.2).props)=>(⟨fun e=>absurd rfl e,fun e=>absurd rfl e,fun e=>absurd rfl e,h⟩:PkAt W (pkT kind (q6u6 kind s.data.toList).1.1 (q6u6 kind s.data.toList).1.2) a));generalize pkT kind (q6u6 kind s.data.toList).1.1 (q6u6 kind s.data.toList).1.2=P at *;generalize endK kind s.data.toList=f at *;generalize q1ra v P=q at *;obtain⟨R,hR⟩:∃R,(if (if f≠0 then f else q)≠0 then(Pk.zero,(if f≠0 then f else q)) else(P,0))=R:=⟨_,rfl⟩
  rw[hR];have HR:=hid hR;clear hb0 hR hm hk0 hk1;rcases hg with rfl|⟨rfl,h1,h2⟩
  all_goals
   go_in;go_wp2_with fail;refine(TA.out _).mono ?_;rintro e W ⟨rfl,hb⟩;have S1:=hid (ST.out _ _ S0.out hb);clear hb S0;go_wp2_with fail;refine(RD.out _).mono ?_;rintro e W2 ⟨a,rfl,p1,p2,p3,hb⟩;have S2:=hid (ST.out _ _ S1.out hb);have hbx:Below W2.heap.size W2 ((W2.alloc (.cells pkZ 38)).setRow W2.heap.size (pkC P a)):=q8xz (qybm (w:=W2) (.cells pkZ 38)) (Nat.le_refl _) (pkC P a);have S3:KtS w W2.heap.size P a ((W2.alloc (.cells pkZ 38)).setRow W2.heap.size (pkC P a)):=
    ⟨qxh2 S2.out.1 hbx,(hbx.block _ (lt_of_block S2.out.2)).trans S2.out.2,lt_of_block S2.out.2,setRow_heap _ _ _ _ _ _ (heap_alloc_new W2 _),(PT.out _ a p1).below hbx,fun g i e=>by have:=p3 g i e;have:=lt_of_block S1.out.2;omega⟩
   have S3:=hid S3;have CP:=hid p2;have hD1:=qwmp P a;have hD2:=qmz0 P a;obtain⟨D,hD⟩:∃D,pkC P a=D:=⟨_,rfl⟩
   rw[hD] at hD1 hD2 S3 ⊢;have HD:=hid hD;have HD1:=hid hD1;have HD2:=hid hD2;have PKD:=hid (fun V (h:KtS w W2.heap.size P a V)=>(by rw[<-hD];exact h.pk:V.heap[W2.heap.size]?=some (.cells D 38 (0,0))));have VAa:=VA.out a;have VAa:=fun V (h:KtS w W2.heap.size P a V)=>(VAa V h.at_ CP.out).mono fun e W' hh=>(⟨hh.1,h.call hh.2⟩:_/\KtS w W2.heap.size P a W')
   rw[hD] at VAa;have VAa:=hid VAa;have FINT:=hid (fun V (h:KtS w W2.heap.size P a V)=>(show q2da w (P,0) (.returned (.tuple #[.agg D,.int .i64 ((0:Nat):Int)])) (V.setRow w.heap.size D) from
    ⟨a,by rw[hD],PT.out _ a (h.at_.ps.kept (by simp[World.setRow]) (fun g i e _=>setRow_other V w.heap.size g _ (by have:=h.pf g i e;omega))),CP.out,FI.out,q8xz h.low (Nat.le_refl _) _,fun h=>absurd rfl h,qq13 NL.out.1 NL.out.2.1 NL.out.2.2 fun g i e=>by have:=h.pf g i e;omega⟩))
   clear p1 p2 p3 hb S2 S1 hbx hD1 hD2 hD VA PT RD;by_cases hf0:f=0
   ·subst hf0;by_cases hq:q=0
    ·subst hq;have hr:R=(P,0):=by rw[<-HR.out];simp
     subst hr;go_wp2_with (first
      |(refine wpList_store_row rfl _ _ _ rfl W2.heap.size D rfl rfl 38 _ (heap_alloc_new W2 _) (by rw[HD1.out];exact q5nr) (by rw[HZ.out,HD1.out]) HD2.out ?_)
      |(refine wpList_load_row rfl _ _ rfl W2.heap.size rfl 38 D (0,0) _ (PKD.out _ S3.out) underlying38 rfl (by rw[HD1.out];exact q5nr) ?_))
     refine(VAa.out _ S3.out).mono ?_;rintro e W4 ⟨rfl,hS⟩;have S4:=hid hS;have RS4:=hid hS.rs;clear hS;go_wp2_with (first
      |(refine wpList_store_row rfl _ _ _ rfl w.heap.size D rfl rfl 38 _ RS4.out (by rw[HD1.out];exact q5nr) (by rw[HZ.out,HD1.out]) HD2.out ?_)
      |(refine wpList_load_row rfl _ _ rfl W2.heap.size rfl 38 D (0,0) _ (PKD.out _ S4.out) underlying38 rfl (by rw[HD1.out];exact q5nr) ?_))
     exact q8iy (cs:=D) rfl rfl rfl rfl underlying38 rfl (by rw[HD1.out];exact q5nr) (setRow_heap _ _ _ _ _ _ RS4.out) (FINT.out _ S4.out)
    ·have hr:R=(Pk.zero,q):=by rw[<-HR.out];simp[hq]
     subst hr;have q1:((q:Int)==0)=false:=by simp;omega
     have q2:((q:Int) != 0)=true:=by simp;omega
     clear hq;go_wp2_with (first
      |(refine wpList_store_row rfl _ _ _ rfl W2.heap.size D rfl rfl 38 _ (heap_alloc_new W2 _) (by rw[HD1.out];exact q5nr) (by rw[HZ.out,HD1.out]) HD2.out ?_)
      |(refine wpList_load_row rfl _ _ rfl W2.heap.size rfl 38 D (0,0) _ (PKD.out _ S3.out) underlying38 rfl (by rw[HD1.out];exact q5nr) ?_))
     refine(VAa.out _ S3.out).mono ?_;rintro e W4 ⟨rfl,hS⟩;have RS4:=hid hS.rs;have RT:=hid (RZ.out q W4 hS.low);clear hS;go_wp2_with (first
      |(refine wpList_buildTo rfl 38 _ rfl (some _) rfl pkZ (by kernel_rfl) ?_)
      |(refine wpList_store_row rfl _ _ _ rfl w.heap.size pkZ rfl rfl 38 _ RS4.out (by rw[HZ.out];exact q5nr) rfl PZ.out ?_))
     exact q8iy (cs:=pkZ) rfl rfl rfl rfl underlying38 rfl (by rw[HZ.out];exact q5nr) (setRow_heap _ _ _ _ _ _ RS4.out) RT.out
   ·have hr:R=(Pk.zero,f):=by rw[<-HR.out];simp[hf0]
    subst hr;have q1:((f:Int)==0)=false:=by simp;omega
    have q2:((f:Int) != 0)=true:=by simp;omega
    have RS4:=hid S3.out.rs;have RT:=hid (RZ.out f _ S3.out.low);clear hf0;go_wp2_with (first
     |(refine wpList_store_row rfl _ _ _ rfl W2.heap.size D rfl rfl 38 _ (heap_alloc_new W2 _) (by rw[HD1.out];exact q5nr) (by rw[HZ.out,HD1.out]) HD2.out ?_)
     |(refine wpList_buildTo rfl 38 _ rfl (some _) rfl pkZ (by kernel_rfl) ?_)
     |(refine wpList_store_row rfl _ _ _ rfl w.heap.size pkZ rfl rfl 38 _ RS4.out (by rw[HZ.out];exact q5nr) rfl PZ.out ?_))
    exact q8iy (cs:=pkZ) rfl rfl rfl rfl underlying38 rfl (by rw[HZ.out];exact q5nr) (setRow_heap _ _ _ _ _ _ RS4.out) RT.out
 ·rw[if_pos hq];have q1:((q0:Int)==0)=false:=by simp;omega
  have q2:((q0:Int) != 0)=true:=by simp;omega
  clear hq hm hk0 hk1;go_in;go_wp2_with fail;refine(TA.out _).mono ?_;rintro e W ⟨rfl,hb⟩;have S1:=hid (ST.out _ _ S0.out hb);clear hb S0;go_wp2_with (first
   |(refine wpList_buildTo rfl 38 _ rfl (some _) rfl pkZ (by kernel_rfl) ?_)
   |(refine wpList_store_row rfl _ _ _ rfl w.heap.size pkZ rfl rfl 38 _ S1.out.2 (by rw[HZ.out];exact q5nr) rfl PZ.out ?_))
  refine q8iy (cs:=pkZ) rfl rfl rfl rfl underlying38 rfl (by rw[HZ.out];exact q5nr) (setRow_heap _ _ _ _ _ _ S1.out.2) ?_;exact RZ.out q0 _ S1.out.1
end Go.Proofs.YtefmhbioggcfaaaGreatDoor
