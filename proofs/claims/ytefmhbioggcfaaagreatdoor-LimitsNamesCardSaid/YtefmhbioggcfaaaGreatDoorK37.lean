/- The contracts of subscribe.reader's small methods: ahead, pass, props. Condition: the bytes are no more than an int says. -/
import Derived.Test.YtefmhbioggcfaaaGreatDoorK31
import Derived.Test.YtefmhbioggcfaaaGreatDoorK13
import Derived.Test.YtefmhbioggcfaaaGreatDoorK35
set_option maxRecDepth 100000
set_option maxHeartbeats 4000000
namespace Go.Proofs.YtefmhbioggcfaaaGreatDoor
open Lib(hid)
open Proofs.Tryz
open Go.RowKit
def rdS(cb:Nat)(v kind:Int):Value := .agg #[.pointer (some ⟨cb,0,none⟩),.int .i64 v,.int .i64 kind]
section
variable{w W W':World}{cb:Nat}{s:ByteArray}{x:Cs}{v kind:Int}
theorem qq7p(w:World)(cb:Nat)(v kind:Int):(w.alloc (.cells #[.pointer (some ⟨cb,0,none⟩),.int .i64 v,.int .i64 kind] 179)).heap[w.heap.size]?=some (.cells #[.pointer (some ⟨cb,0,none⟩),.int .i64 v,.int .i64 kind] 179 (0,0)):=heap_alloc_new w _
theorem qnsg(hm:s.size<=9223372036854775807)(h:CsAt w cb s x) :
 Calls prog 224 #[rdS cb v kind] w fun e w'=>e=.returned (.string (bs x.ahead))/\Below w.heap.size w w':=by
 have B0:=hid (qybm (w:=w) (.cells #[.pointer (some ⟨cb,0,none⟩),.int .i64 v,.int .i64 kind] 179));have h0:=h.alloc (.cells #[.pointer (some ⟨cb,0,none⟩),.int .i64 v,.int .i64 kind] 179);have LF:=hid (fun n=>qjtm hm (h0.draws n));have PK:=hid (fun n=>qitj hm (h0.draws n));have DR:∀a b:Nat,((w.alloc (.cells #[.pointer (some ⟨cb,0,none⟩),.int .i64 v,.int .i64 kind] 179)).drewN a).drewN b=(w.alloc (.cells #[.pointer (some ⟨cb,0,none⟩),.int .i64 v,.int .i64 kind] 179)).drewN (a+b):=fun a b=>by simp
 have DR:=hid DR;unfold rdS;clear h h0;go_in;go_wp2_with fail;go_quiet (first
  |(go_at_call 84;exact(LF.out _).mono fun _ _ h=>⟨h.1,qrso h.2⟩)
  |(go_at_call 254;exact(PK.out _).mono fun _ _ h=>⟨h.1,qrso h.2⟩))
 go_wp2;go_ret;exact⟨rfl,qnpu B0.out _⟩
theorem qo6b(k f:Nat)(hk:k<=x.r.length)(hm:s.size<=9223372036854775807)(h:CsAt w cb s x) :
 Calls prog 225 #[rdS cb v kind,.int .i64 (k:Nat),.int .i64 (f:Nat)] w fun e w'=>e=.returned (.tuple #[])/\CsAt w' cb s (if x.e=0 then⟨x.r.drop k,f⟩ else x)/\w.grownBy w' (some cb):=by
 have G0:=hid (World.grownBy_alloc w (.cells #[.pointer (some ⟨cb,0,none⟩),.int .i64 v,.int .i64 kind] 179) (some cb));have h0:=h.alloc (.cells #[.pointer (some ⟨cb,0,none⟩),.int .i64 v,.int .i64 kind] 179);have TK:=hid (qgtr k hm h0);have e1:((x.take k).2.fail f)=if x.e=0 then⟨x.r.drop k,f⟩ else x:=by
  unfold Cs.take Cs.fail;by_cases he:x.e=0
  ·simp[he,show ¬x.r.length<k by omega]
  ·simp[he]
 rw[<-e1];have BX:=hid (qq7p w cb v kind);have hne:w.heap.size≠cb:=Nat.ne_of_gt h.lt;unfold rdS;clear h h0 e1 hk;go_in;go_wp2_with fail;refine(TK.out).mono ?_;rintro e w2 ⟨rfl,hc,hg⟩;have hb2:=(hg.block w.heap.size (by simp) (fun e=>hne (Option.some.inj e))).trans BX.out;have c0:w2.cell? ⟨w.heap.size,0,none⟩=some (.pointer (some ⟨cb,0,none⟩)):=cell_of_row _ _ 0 _ _ _ hb2;have FL:=hid (qazj f hc);have HG:=hid (qo6d G0.out hg);clear hc hg hb2;go_wp2_with fail;refine(FL.out).mono ?_;rintro e w3 ⟨rfl,hc,hg⟩;have HC:=hid hc;have HG2:=hid (qo6d HG.out hg);clear hc hg c0;go_wp2_with fail
 go_end0
 exact⟨rfl,HC.out,HG2.out⟩
theorem qzvp(hk0:-9223372036854775808<=kind)(hk1:kind<=9223372036854775807)(hm:s.size<=9223372036854775807)(h:CsAt w cb s x) :
 Calls prog 179 #[rdS cb v kind] w fun e w'=>(∃A c,e=.returned (.slice A (x.props v kind).1.length c)/\(x.props v kind).1.length<=c/\PL w' A (x.props v kind).1/\∀g i,A=some ⟨g,i,none⟩->w.heap.size<g)/\CsAt w' cb s (x.props v kind).2/\w.grownBy w' (some cb):=by
 have G0:=hid (World.grownBy_alloc w (.cells #[.pointer (some ⟨cb,0,none⟩),.int .i64 v,.int .i64 kind] 179) (some cb));have h0:=h.alloc (.cells #[.pointer (some ⟨cb,0,none⟩),.int .i64 v,.int .i64 kind] 179);have H0:=hid h0;have BX:=hid (qq7p w cb v kind);have c1:(w.alloc (.cells #[.pointer (some ⟨cb,0,none⟩),.int .i64 v,.int .i64 kind] 179)).cell? ⟨w.heap.size,1,none⟩=some (.int .i64 v):=cell_of_row _ _ 1 _ _ _ BX.out;by_cases h5:v=5
 ·subst h5;have AH:=fun W (h:CsAt W cb s x)=>qnsg (v:=5) (kind:=kind) hm h;have hle:x.ahead.length<=x.r.length:=by unfold Cs.ahead;split;exact Nat.le_refl _;exact Nat.zero_le _
  obtain⟨L,k,F,hq⟩:∃L k F,qflw kind x.ahead=(L,k,F):=⟨_,_,_,rfl⟩
  have RD:=fun W=>q188 kind (bs x.ahead) L k F hk0 hk1 (by rw[q5zk];have:=h.len;omega) hq W;have hk2:k<=x.r.length:=by
   by_cases hF:F=0
   ·subst hF
    have:=(qugf hq).2.1
    omega
   ·have:=qjfk (kind:=kind) (s:=x.ahead) (by rw[hq];exact hF)
    rw[hq] at this
    have:k=0:=congrArg (fun z=>z.2.1) this
    omega
  have e1:x.props 5 kind=(L,if x.e=0 then⟨x.r.drop k,F⟩ else x):=by
   unfold Cs.props;by_cases he:x.e=0
   ·unfold Cs.ahead at hq;rw[if_pos he] at hq;simp[he,hq]
   ·unfold Cs.ahead at hq;rw[if_neg he,qjdx] at hq;simp[he,<-(Prod.mk.inj hq).1]
  rw[e1];have PS:=fun W (h:CsAt W cb s x)=>qo6b (v:=5) (kind:=kind) k F hk2 hm h;generalize (if x.e=0 then(⟨x.r.drop k,F⟩:Cs) else x)=y at *;generalize bs x.ahead=t at *;have CB:=hid h.lt;unfold rdS at *;replace AH:=hid AH;replace RD:=hid RD;replace PS:=hid PS;clear h h0 hle hk2 e1 hq;go_in
  go_upto_region 3 with fail
  clear c1;refine qje9 (S:=fun z V=>CsAt V cb s x/\w.grownBy V (some cb)/\V.heap[w.heap.size]?=some (.cells #[.pointer (some ⟨cb,0,none⟩),.int .i64 5,.int .i64 kind] 179 (0,0))/\∀A c,z=some (A,c)->PL V A L/\L.length<=c/\∀g i,A=some ⟨g,i,none⟩->w.heap.size<g) (n:=L.length) (k:=(k:Int)) (f:=(F:Int)) (t:=t)
   ⟨H0.out.draws 1,qo6d G0.out (q9cp (qnpu (Below.refl _ _) 1) (some cb)),BX.out,fun A c e=>by cases e⟩ (fun z V hS=>hS.2.2.1) (fun z V hS=>cell_of_row _ _ 2 _ _ _ hS.2.2.1)
   (fun z V hS=>(AH.out V hS.1).mono fun e W' ⟨he,hb⟩=>⟨he,hS.1.below hb,qo6d hS.2.1 (q9cp hb (some cb)),(hb.block _ (lt_of_block hS.2.2.1)).trans hS.2.2.1,fun A c e=>by obtain⟨p1,p2,p3⟩:=hS.2.2.2 A c e;exact⟨p1.below hb,p2,p3⟩⟩)
   (fun z V hS=>(RD.out V).mono fun e W' ⟨hb,A,c,he,hc,hP,_,_,hA⟩=>⟨A,c,he,hS.1.below hb,qo6d hS.2.1 (q9cp hb (some cb)),(hb.block _ (lt_of_block hS.2.2.1)).trans hS.2.2.1,fun A' c' e=>by cases e;exact⟨hP,hc,fun g i e=>Nat.lt_of_lt_of_le (lt_of_block hS.2.2.1) (hA g i e)⟩⟩) ?_
  intro z V hz hS;obtain⟨⟨A,c⟩,rfl⟩:=Option.isSome_iff_exists.1 hz;obtain⟨hC,hG,hX,hR⟩:=hS;obtain⟨p1,p2,p3⟩:=hR A c rfl;have H3:=hid hC;have G3:=hid hG;have P3:=hid p1;have Q3:=hid (And.intro p2 p3);have c0:V.cell? ⟨w.heap.size,0,none⟩=some (.pointer (some ⟨cb,0,none⟩)):=cell_of_row _ _ 0 _ _ _ hX;have c1:V.cell? ⟨w.heap.size,1,none⟩=some (.int .i64 5):=cell_of_row _ _ 1 _ _ _ hX;have c2:V.cell? ⟨w.heap.size,2,none⟩=some (.int .i64 kind):=cell_of_row _ _ 2 _ _ _ hX;clear hC hG hX hR p1 p2 p3 hz;go_wp2_with fail;refine(PS.out _ H3.out).mono ?_;rintro e w4 ⟨rfl,hc,hg⟩;have H4:=hid hc;have G4:=hid (qo6d G3.out hg);have P4:=hid (P3.out.grown hg (fun g i e=>by have:=Q3.out.2 g i e;have:=CB.out;omega));clear hc hg c0 c1 c2;go_wp2;go_ret;exact⟨⟨A,c,rfl,Q3.out.1,P4.out,Q3.out.2⟩,H4.out,G4.out⟩
 ·have e1:x.props v kind=([],x):=by unfold Cs.props;rw[if_pos (.inr h5)]
  rw[e1];have h5':(v==5)=false:=beq_eq_false_iff_ne.2 h5;have h5n:(v != 5)=true:=by rw[show(v != 5)=!(v==5) from rfl,h5'];rfl
  unfold rdS;clear h5 h5' h h0 e1;go_in;go_wp2;go_ret;exact⟨⟨none,0,rfl,Nat.zero_le _,fun e=>absurd rfl e,fun g i e=>by cases e⟩,H0.out,G0.out⟩
end
theorem qzi2:∀n:Nat,n<256->(bits .andNot .i64 (n:Int) 3 != 0)=decide (3<n)/\(bits .andNot .i64 (n:Int) 63 != 0)=decide (63<n)/\bits .and .i64 (n:Int) 3=((n%4:Nat):Int)/\(bits .and .i64 (n:Int) 4 != 0)=(n / 4%2==1)/\(bits .and .i64 (n:Int) 8 != 0)=(n / 8%2==1)/\
 bits .and .i64 (n:Int) 48=((16*(n / 16%4):Nat):Int):=by decide+kernel
theorem q4vu(x:Cs):(x.num 1).1<256:=by
 unfold Cs.num
 have:=qn9h (x.take 1).1
 have hl:(x.take 1).1.length<=1:=by
  unfold Cs.take;split
  ·simp
  ·split
   ·simp
   ·simp;omega
 have:256^(x.take 1).1.length<=256^1:=Nat.pow_le_pow_right (by decide) hl
 omega
def fiZ:Array Value:=#[.string ⟨#[]⟩,.int .i64 0,.bool false,.bool false,.int .i64 0]
structure RoS(w:World)(cb:Nat)(v kind:Int)(s:ByteArray)(y:Cs)(W:World):Prop where
 lt:cb<w.heap.size
 g:w.grownBy W (some cb)
 bx:W.heap[w.heap.size]?=some (.cells #[.pointer (some ⟨cb,0,none⟩),.int .i64 v,.int .i64 kind] 179 (0,0))
 rs:W.heap[w.heap.size+1]?=some (.cells fiZ 78 (0,0))
 cs:CsAt W cb s y
section
variable{w W W':World}{cb:Nat}{s:ByteArray}{x y z:Cs}{v kind:Int}
theorem RoS.made(h:CsAt w cb s x):RoS w cb v kind s x ((w.alloc (.cells #[.pointer (some ⟨cb,0,none⟩),.int .i64 v,.int .i64 kind] 179)).alloc (.cells fiZ 78)):=
 ⟨h.lt,qo6d (World.grownBy_alloc _ _ _) (World.grownBy_alloc _ _ _),heap_alloc2_old _ _ _,heap_alloc2_new _ _ _,(h.alloc _).alloc _⟩
theorem RoS.call(h:RoS w cb v kind s y W)(hc:CsAt W' cb s z)(hg:W.grownBy W' (some cb)):RoS w cb v kind s z W':=
 ⟨h.lt,qo6d h.g hg,(hg.block _ (lt_of_block h.bx) (fun e=>by have:=Option.some.inj e;have:=h.lt;omega)).trans h.bx,(hg.block _ (lt_of_block h.rs) (fun e=>by have:=Option.some.inj e;have:=h.lt;omega)).trans h.rs,hc⟩
theorem RoS.below(h:RoS w cb v kind s y W)(hb:Below W.heap.size W W'):RoS w cb v kind s y W':=
 ⟨h.lt,qo6d h.g (q9cp hb _),(hb.block _ (lt_of_block h.bx)).trans h.bx,(hb.block _ (lt_of_block h.rs)).trans h.rs,h.cs.below hb⟩
theorem RoS.cell(h:RoS w cb v kind s y W)(j:Nat):W.cell? ⟨w.heap.size,j,none⟩=(#[Value.pointer (some ⟨cb,0,none⟩),.int .i64 v,.int .i64 kind]:Array Value)[j]? := cell_of_row _ _ j _ _ _ h.bx
theorem qla3(hm:s.size<=9223372036854775807)(h:CsAt w cb s x) :
 Calls prog 255 #[rdS cb v kind] w fun e w'=>e=.returned (.agg (fiC (q7vq [] (x.num 1).1)))/\CsAt w' cb s (if 63<(x.num 1).1\/(v=4/\3<(x.num 1).1) then(x.num 1).2.fail 7 else(x.num 1).2)/\w.grownBy w' (some cb):=by
 have G0:=hid (World.grownBy_alloc w (.cells #[.pointer (some ⟨cb,0,none⟩),.int .i64 v,.int .i64 kind] 179) (some cb));have h0:=h.alloc (.cells #[.pointer (some ⟨cb,0,none⟩),.int .i64 v,.int .i64 kind] 179);have NM:=fun W (h:CsAt W cb s x)=>q8yf 1 (by decide) hm h;have hlt:=q4vu x;generalize x.num 1=z at *;obtain⟨n,y⟩:=z;simp only at NM hlt ⊢;have BI:=hid (qqd6 v);have FL:=hid (fun W (h:CsAt W cb s y)=>qazj 7 h);obtain⟨b3,b63,b2,b4,b8,b48⟩:=qzi2 n hlt;have hbad:(63<n\/(v=4/\3<n))↔(bits .andNot .i64 (n:Int) (qyb2 v:Int) != 0)=true:=by
  unfold qyb2;by_cases h4:v=4
  ·rw[if_pos h4];show _↔(bits .andNot .i64 (n:Int) 3 != 0)=true;rw[b3,decide_eq_true_eq];omega
  ·rw[if_neg h4];show _↔(bits .andNot .i64 (n:Int) 63 != 0)=true;rw[b63,decide_eq_true_eq];omega
 have R0:=hid (RoS.made (v:=v) (kind:=kind) h);unfold fiZ at R0;replace NM:=hid NM;have hn:(n:Int)<65536:=by omega
 have K0:∀y W,RoS w cb v kind s y W->W.cell? ⟨w.heap.size,0,none⟩=some (.pointer (some ⟨cb,0,none⟩)):=fun y W h=>h.cell 0;have K1:∀y W,RoS w cb v kind s y W->W.cell? ⟨w.heap.size,1,none⟩=some (.int .i64 v):=fun y W h=>h.cell 1;have HB:=hid (show ∃(q t r:Int) (a b:Bool),bits .and .i64 (n:Int) 3=q/\bits .and .i64 (n:Int) 48=t/\wrap64 q=q/\wrap64 (t.tdiv 16)=r/\(bits .and .i64 (n:Int) 4 != 0)=a/\(bits .and .i64 (n:Int) 8 != 0)=b/\fiC (q7vq [] n)=#[.string ⟨#[]⟩,.int .i64 q,.bool a,.bool b,.int .i64 r] from by
  refine⟨_,_,((n / 16%4:Nat):Int),_,_,b2,b48,?_,?_,b4,b8,rfl⟩
  ·have:((n%4:Nat):Int)<4:=by omega
   generalize n%4=m at *;unfold wrap64;omega
  ·have:((n / 16%4:Nat):Int)<4:=by omega
   generalize n / 16%4=m at *;have e:((16*m:Nat):Int).tdiv 16=(m:Int):=by rw[Int.tdiv_eq_ediv_of_nonneg (by omega)];omega
   rw[e];unfold wrap64;omega)
 replace K0:=hid K0;replace K1:=hid K1;unfold rdS;clear h h0 b3 b63 G0 b2 b4 b8 b48;by_cases hd:63<n\/(v=4/\3<n)
 ·rw[if_pos hd];have g1:=hbad.1 hd;clear hbad hd;have g2:(bits .andNot .i64 (n:Int) (qyb2 v:Int)==0)=false:=by rw[bne,Bool.not_eq_true'] at g1;exact g1
  generalize qyb2 v=M at *;go_in;go_wp2_with fail;refine(NM.out _ R0.out.cs).mono ?_;rintro e w2 ⟨rfl,hc,hg⟩;have R2:=hid (R0.out.call hc hg);have c0:=K0.out _ _ R2.out;have c1:=K1.out _ _ R2.out;clear hc hg R0;go_wp2_with fail;refine(BI.out _).mono ?_;rintro e w3 ⟨rfl,rfl⟩;go_wp2_with fail;refine(FL.out _ R2.out.cs).mono ?_;rintro e w4 ⟨rfl,hc,hg⟩;have R4:=hid (R2.out.call hc hg);obtain⟨q,t,r,a,b,b2,b48,e1,e2,b4,b8,hD⟩:=HB.out;have HD:=hid hD;have H5:=hid (show #[Value.string ⟨#[]⟩,.int .i64 q,.bool a,.bool b,.int .i64 r].size=5 from rfl);have HO:=hid (show #[Value.string ⟨#[]⟩,.int .i64 q,.bool a,.bool b,.int .i64 r].all (·.oneCell')=true from by simp[Value.oneCell']);have HR:=hid R4.out.rs;clear hc hg c0 c1 g1 g2 hn HB hD;go_wp2_with (refine wpList_store_row rfl _ _ _ rfl (w.heap.size+1) #[.string ⟨#[]⟩,.int .i64 q,.bool a,.bool b,.int .i64 r] rfl rfl 78 _ HR.out (by rw[H5.out];exact qhg6) (by rw[H5.out];rfl) HO.out ?_);refine q7wi rfl rfl rfl underlying78 rfl (by rw[H5.out];exact qhg6) (setRow_heap _ _ _ _ _ _ HR.out) ⟨by rw[HD.out],?_,?_⟩
  ·exact R4.out.cs.of_block (setRow_other _ _ _ _ (by have:=R4.out.lt;omega))
  ·exact qacl R4.out.g (by omega) _
 ·rw[if_neg hd];have g1:(bits .andNot .i64 (n:Int) (qyb2 v:Int) != 0)=false:=by rw[Bool.eq_false_iff];exact fun e=>hd (hbad.2 e)
  clear hbad hd;have g2:(bits .andNot .i64 (n:Int) (qyb2 v:Int)==0)=true:=by rw[bne,Bool.not_eq_false'] at g1;exact g1
  generalize qyb2 v=M at *;go_in;go_wp2_with fail;refine(NM.out _ R0.out.cs).mono ?_;rintro e w2 ⟨rfl,hc,hg⟩;have R2:=hid (R0.out.call hc hg);have c0:=K0.out _ _ R2.out;have c1:=K1.out _ _ R2.out;clear hc hg R0;go_wp2_with fail;refine(BI.out _).mono ?_;rintro e w3 ⟨rfl,rfl⟩;obtain⟨q,t,r,a,b,b2,b48,e1,e2,b4,b8,hD⟩:=HB.out;have HD:=hid hD;have H5:=hid (show #[Value.string ⟨#[]⟩,.int .i64 q,.bool a,.bool b,.int .i64 r].size=5 from rfl);have HO:=hid (show #[Value.string ⟨#[]⟩,.int .i64 q,.bool a,.bool b,.int .i64 r].all (·.oneCell')=true from by simp[Value.oneCell']);have HR:=hid R2.out.rs;clear c0 c1 hn HB hD;go_wp2_with (refine wpList_store_row rfl _ _ _ rfl (w.heap.size+1) #[.string ⟨#[]⟩,.int .i64 q,.bool a,.bool b,.int .i64 r] rfl rfl 78 _ HR.out (by rw[H5.out];exact qhg6) (by rw[H5.out];rfl) HO.out ?_);refine q7wi rfl rfl rfl underlying78 rfl (by rw[H5.out];exact qhg6) (setRow_heap _ _ _ _ _ _ HR.out) ⟨by rw[HD.out],?_,?_⟩
  ·exact R2.out.cs.of_block (setRow_other _ _ _ _ (by have:=R2.out.lt;omega))
  ·exact qacl R2.out.g (by omega) _
end
theorem qmxu:rdT []=([],0,3):=by decide
theorem q5y0{w W:World}{B j:Nat}{u:Value}{r:Option Nat}(h:w.grownBy W r)(hB:w.heap.size<=B):w.grownBy (W.setCell ⟨B,j,none⟩ u) r:=
 ⟨h.os,h.tape,h.output,by have:=h.size;simpa [World.setCell] using this,fun k hk hne=>(heap_setCell_other W ⟨B,j,none⟩ k u (by show k≠B;omega)).trans (h.block k hk hne)⟩
section
variable{w W W':World}{cb:Nat}{s:ByteArray}{x y z:Cs}{v kind:Int}
theorem qruy(hk:kind=8\/kind=10)(hm:s.size<=9223372036854775807)(h:CsAt w cb s x) :
 Calls prog 226 #[rdS cb v kind] w fun e w'=>e=.returned (.agg (fiC (x.filt v kind).1))/\CsAt w' cb s (x.filt v kind).2/\w.grownBy w' (some cb):=by
 have AH:=hid (fun W (h:CsAt W cb s x)=>qnsg (v:=v) (kind:=kind) hm h);have hle:x.ahead.length<=x.r.length:=by unfold Cs.ahead;split;exact Nat.le_refl _;exact Nat.zero_le _
 have RD:=fun W=>q2z4 (bs x.ahead) W (by rw[q5zk];have:=h.len;omega);rw[qkd1] at RD;have hk2:(rdT x.ahead).2.1<=x.r.length:=Nat.le_trans (qslt x.ahead).1 hle;have e1:x.text=((rdT x.ahead).1,if x.e=0 then⟨x.r.drop (rdT x.ahead).2.1,(rdT x.ahead).2.2⟩ else x):=by
  unfold Cs.text Cs.ahead;by_cases he:x.e=0
  ·simp[he]
  ·simp[he,qmxu]
 unfold Cs.filt;rw[e1];generalize rdT x.ahead=z at *;obtain⟨t,k,f⟩:=z;have PS:=fun W (h:CsAt W cb s x)=>qo6b (v:=v) (kind:=kind) k f hk2 hm h;generalize (if x.e=0 then(⟨x.r.drop k,f⟩:Cs) else x)=y at *;have OP:=fun W (h:CsAt W cb s y)=>qla3 (v:=v) (kind:=kind) hm h;have R0:=hid (RoS.made (v:=v) (kind:=kind) h);generalize bs x.ahead=T at *;replace RD:=hid RD;replace PS:=hid PS;replace OP:=hid OP;have K0:∀y W,RoS w cb v kind s y W->W.cell? ⟨w.heap.size,0,none⟩=some (.pointer (some ⟨cb,0,none⟩)):=fun y W h=>h.cell 0;have K1:∀y W,RoS w cb v kind s y W->W.cell? ⟨w.heap.size,1,none⟩=some (.int .i64 v):=fun y W h=>h.cell 1;have K2:∀y W,RoS w cb v kind s y W->W.cell? ⟨w.heap.size,2,none⟩=some (.int .i64 kind):=fun y W h=>h.cell 2;replace K0:=hid K0;replace K1:=hid K1;replace K2:=hid K2;have HZ:=hid (show fiZ.size=5 from rfl);simp only;unfold rdS at *;unfold ok3 at RD;unfold fiZ at R0;clear h hle hk2 e1;rcases hk with rfl|rfl
 ·rw[if_neg (by decide)];generalize (y.num 1).1=n at *;generalize (y.num 1).2=u at *;simp only;generalize (if 63<n\/(v=4/\3<n) then u.fail 7 else u)=u2 at *;go_in;go_wp2_with fail;refine(AH.out _ R0.out.cs).mono ?_;rintro e w2 ⟨rfl,hb⟩;have R2:=hid (R0.out.below hb);clear hb R0;go_wp2_with fail;refine(RD.out _).mono ?_;rintro e w3 ⟨rfl,hb⟩;have R3:=hid (R2.out.below hb);have c0:=K0.out _ _ R3.out;have c1:=K1.out _ _ R3.out;have c2:=K2.out _ _ R3.out;clear hb R2;go_wp2_with fail;refine(PS.out _ R3.out.cs).mono ?_;rintro e w4 ⟨rfl,hc,hg⟩;have R4:=hid (R3.out.call hc hg);have R5:=hid (R4.out.below ((Below.refl _ _).alloc (Nat.le_refl _) (.cells #[.string ⟨#[]⟩,.int .i64 0,.bool false,.bool false,.int .i64 0] 78)));have F5:=hid (heap_alloc_new w4 (.cells #[.string ⟨#[]⟩,.int .i64 0,.bool false,.bool false,.int .i64 0] 78));clear hc hg R3 c0 c1 c2;have c0:=K0.out _ _ R5.out;have c1:=K1.out _ _ R5.out;have c2:=K2.out _ _ R5.out;go_wp2_with fail;refine(OP.out _ R5.out.cs).mono ?_;rintro e w6 ⟨rfl,hc,hg⟩;have R6:=hid (R5.out.call hc hg);have hNE:w4.heap.size≠cb:=by have h1:=R4.out.lt;have h2:=R4.out.g.size;omega
  have F6:=hid ((hg.block w4.heap.size (by simp) (fun e=>hNE (Option.some.inj e))).trans F5.out);have HB:=hid (show w.heap.size+1<w4.heap.size from lt_of_block R4.out.rs);clear hc hg c0 c1 c2 F5 R5 R4 hNE;generalize w4.heap.size=b at *;have D1:=hid (qxzo (q7vq [] n));have D2:=hid (qx37 (q7vq [] n));have D3:=hid (show(fiC (q7vq [] n)).setIfInBounds 0 (.string (bs t))=fiC (q7vq t n) from rfl);have D4:=hid (qxzo (q7vq t n));have D5:=hid (qx37 (q7vq t n));have H5:=hid (show #[Value.string ⟨#[]⟩,.int .i64 0,.bool false,.bool false,.int .i64 0].size=5 from rfl);have F7:=hid (setRow_heap _ _ _ (fiC (q7vq [] n)) _ _ F6.out);have f7:(w6.setRow b (fiC (q7vq [] n))).frozen? ⟨b,0,none⟩=false:=frozen_of_row _ _ _ _ _ F7.out;have k7:(w6.setRow b (fiC (q7vq [] n))).cell? ⟨b,0,none⟩=some (.string ⟨#[]⟩):=cell_of_row _ _ 0 _ _ _ F7.out;have F8:=hid (qv6p (j:=0) (u := .string (bs t)) F7.out D3.out);generalize fiC (q7vq [] n)=C1 at *;obtain⟨C2,hC2⟩:∃C,fiC (q7vq t n)=C:=⟨_,rfl⟩
  rw[hC2] at D3 D4 D5 F8;have HC2:=hid hC2;clear hC2;have G8:=hid (show((w6.setRow b C1).setCell ⟨b,0,none⟩ (.string (bs t))).heap[w.heap.size+1]?=some (.cells #[.string ⟨#[]⟩,.int .i64 0,.bool false,.bool false,.int .i64 0] 78 (0,0)) from
   (heap_setCell_other _ ⟨b,0,none⟩ _ _ (by show w.heap.size+1≠b;have:=HB.out;omega)).trans ((setRow_other _ _ _ _ (by have:=HB.out;omega)).trans R6.out.rs))
  go_wp2_with (first
   |(refine wpList_store_row rfl _ _ _ rfl b C1 rfl rfl 78 _ F6.out (by rw[D1.out];exact qhg6) (by rw[H5.out,D1.out]) D2.out ?_)
   |(refine wpList_load_row rfl _ _ rfl b rfl 78 C2 (0,0) _ F8.out underlying78 rfl (by rw[D4.out];exact qhg6) ?_)
   |(refine wpList_store_row rfl _ _ _ rfl (w.heap.size+1) C2 rfl rfl 78 _ G8.out (by rw[D4.out];exact qhg6) (by rw[H5.out,D4.out]) D5.out ?_))
  have LT:=R6.out.lt;refine q7wi rfl rfl rfl underlying78 rfl (by rw[D4.out];exact qhg6) (setRow_heap _ _ _ _ _ _ G8.out) ⟨by rw[HC2.out],?_,?_⟩
  ·exact R6.out.cs.of_block ((setRow_other _ _ _ _ (by omega)).trans ((heap_setCell_other _ ⟨b,0,none⟩ _ _ (by show cb≠b;have:=HB.out;omega)).trans (setRow_other _ _ _ _ (by have:=HB.out;omega))))
  ·exact qacl (q5y0 (qacl R6.out.g (by have:=HB.out;omega) _) (by have:=HB.out;omega)) (by omega) _
 ·rw[if_pos rfl];simp only;clear OP;go_in;go_wp2_with fail;refine(AH.out _ R0.out.cs).mono ?_;rintro e w2 ⟨rfl,hb⟩;have R2:=hid (R0.out.below hb);clear hb R0;go_wp2_with fail;refine(RD.out _).mono ?_;rintro e w3 ⟨rfl,hb⟩;have R3:=hid (R2.out.below hb);have c0:=K0.out _ _ R3.out;have c1:=K1.out _ _ R3.out;have c2:=K2.out _ _ R3.out;clear hb R2;go_wp2_with fail;refine(PS.out _ R3.out.cs).mono ?_;rintro e w4 ⟨rfl,hc,hg⟩;have R4:=hid (R3.out.call hc hg);have R5:=hid (R4.out.below ((Below.refl _ _).alloc (Nat.le_refl _) (.cells #[.string ⟨#[]⟩,.int .i64 0,.bool false,.bool false,.int .i64 0] 78)));have F6:=hid (heap_alloc_new w4 (.cells #[.string ⟨#[]⟩,.int .i64 0,.bool false,.bool false,.int .i64 0] 78));clear hc hg R3 c0 c1 c2;have c2:=K2.out _ _ R5.out;have H5:=hid (show #[Value.string ⟨#[]⟩,.int .i64 0,.bool false,.bool false,.int .i64 0].size=5 from rfl);have D4:=hid (show #[Value.string (bs t),.int .i64 0,.bool false,.bool false,.int .i64 0].size=5 from rfl);have D5:=hid (show #[Value.string (bs t),.int .i64 0,.bool false,.bool false,.int .i64 0].all (·.oneCell')=true from by simp[Value.oneCell']);have R8:=hid (R4.out.below ((Below.refl _ _).alloc (Nat.le_refl _) (.cells #[.string (bs t),.int .i64 0,.bool false,.bool false,.int .i64 0] 78)));have G8:=hid R8.out.rs;have HC2:=hid (show fiC ⟨t,0,false,false,0⟩=#[Value.string (bs t),.int .i64 0,.bool false,.bool false,.int .i64 0] from rfl);clear R4 R5;go_wp2_with (first
   |(refine wpList_load_row rfl _ _ rfl w4.heap.size rfl 78 #[.string (bs t),.int .i64 0,.bool false,.bool false,.int .i64 0] (0,0) _ (heap_alloc_new w4 _) underlying78 rfl (by rw[D4.out];exact qhg6) ?_)
   |(refine wpList_store_row rfl _ _ _ rfl (w.heap.size+1) #[.string (bs t),.int .i64 0,.bool false,.bool false,.int .i64 0] rfl rfl 78 _ G8.out (by rw[D4.out];exact qhg6) (by rw[D4.out];exact H5.out) D5.out ?_))
  have LT:=R8.out.lt;refine q7wi rfl rfl rfl underlying78 rfl (by rw[D4.out];exact qhg6) (setRow_heap _ _ _ _ _ _ G8.out) ⟨by rw[HC2.out],?_,?_⟩
  ·exact R8.out.cs.of_block (setRow_other _ _ _ _ (by omega))
  ·exact qacl R8.out.g (by omega) _
end
structure LsS(w:World)(cb:Nat)(v kind:Int)(s:ByteArray)(t:TypeId)(k n:Nat)(xs:List Value)(val:Value)(y:Cs)(W:World):Prop where
 lt:cb<w.heap.size
 g:w.grownBy W (some cb)
 bx:W.heap[w.heap.size]?=some (.cells #[.pointer (some ⟨cb,0,none⟩),.int .i64 v,.int .i64 kind] 179 (0,0))
 cs:CsAt W cb s y
 own:W.ownsRow (w.heap.size+1) t k val n xs
section
variable{w W W':World}{cb:Nat}{s:ByteArray}{x y z:Cs}{v kind:Int}{t:TypeId}{k n:Nat}{xs:List Value}{val:Value}
theorem LsS.made(h:CsAt w cb s x):LsS w cb v kind s t k 0 [] (.slice none 0 0) x (w.alloc (.cells #[.pointer (some ⟨cb,0,none⟩),.int .i64 v,.int .i64 kind] 179)):=
 ⟨h.lt,World.grownBy_alloc _ _ _,qq7p _ _ _ _,h.alloc _,World.ownsRow_nil _ _ _ _⟩
theorem LsS.call(h:LsS w cb v kind s t k n xs val y W)(hc:CsAt W' cb s z)(hg:W.grownBy W' (some cb)):LsS w cb v kind s t k n xs val z W':=
 ⟨h.lt,qo6d h.g hg,(hg.block _ (lt_of_block h.bx) (fun e=>by have:=Option.some.inj e;have:=h.lt;omega)).trans h.bx,hc,h.own.kept hg (.inr fun e=>by have:=(h.own.lt _ e).1;have:=h.lt;omega)⟩
theorem LsS.draws(h:LsS w cb v kind s t k n xs val y W)(j:Nat):LsS w cb v kind s t k n xs val y (W.drewN j):=
 h.call (h.cs.draws j) (q9cp (qnpu (Below.refl _ _) j) _)
theorem LsS.cell(h:LsS w cb v kind s t k n xs val y W)(j:Nat):W.cell? ⟨w.heap.size,j,none⟩=(#[Value.pointer (some ⟨cb,0,none⟩),.int .i64 v,.int .i64 kind]:Array Value)[j]? := cell_of_row _ _ j _ _ _ h.bx
theorem LsS.more(h:LsS w cb v kind s t k n xs val y W)(o:Obj){m:Nat}{ys:List Value}{val':Value}(hown:W'.ownsRow (w.heap.size+1) t k val' m ys)(hg:(W.alloc o).grownBy W' val.ownBlock):LsS w cb v kind s t k m ys val' y W':=by
 have hb:∀j,val.ownBlock=some j->w.heap.size+1<=j:=fun j e=>(h.own.lt j e).1;have lb:=lt_of_block h.bx;refine⟨h.lt,⟨hg.os.trans h.g.os,hg.tape.trans h.g.tape,hg.output.trans h.g.output,?_,fun j hj hne=>?_⟩,?_,?_,hown⟩
 ·have h1:=hg.size;have h2:=h.g.size;simp at h1;omega
 ·rw[hg.block j (by have:=h.g.size;simp;omega) (fun e=>by have:=hb j e.symm;omega),heap_alloc_old _ _ (by have:=h.g.size;omega)];exact h.g.block j hj hne
 ·rw[hg.block _ (by simp;omega) (fun e=>by have:=hb _ e.symm;omega),heap_alloc_old _ _ lb];exact h.bx
 ·refine h.cs.of_block ?_
  have:=h.lt
  rw[hg.block cb (by simp;omega) (fun e=>by have:=hb _ e.symm;omega),heap_alloc_old _ _ (by omega)]
end
def qfy2(y:Cs):Nat:=if y.e≠0 then 0 else y.r.length+1
section
variable{w W W':World}{cb:Nat}{s:ByteArray}{x y z:Cs}{v kind:Int}
theorem qrro(hk:kind=8\/kind=10)(hm:s.size<=9223372036854775807)(hN:(Cs.filtsW v kind x).1.length<=70000)(h:CsAt w cb s x) :
 Calls prog 181 #[rdS cb v kind] w fun e w'=>(∃A c,e=.returned (.slice A (if (Cs.filtsW v kind x).2.e=0 then(Cs.filtsW v kind x).1 else []).length c)/\CL w' A (fcs (if (Cs.filtsW v kind x).2.e=0 then(Cs.filtsW v kind x).1 else []))/\∀g i,A=some ⟨g,i,none⟩->w.heap.size<g)/\CsAt w' cb s (Cs.filtsW v kind x).2/\w.grownBy w' (some cb):=by
 obtain⟨i0,hi,hz0,hz1,hz2⟩:=info_parts q4j3;have S0:=hid (LsS.made (v:=v) (kind:=kind) (t:=78) (k:=5) h);have FI:=hid (fun y W (h:CsAt W cb s y)=>qruy (v:=v) hk hm h);have ER:=hid (fun y W (h:CsAt W cb s y)=>q3gp h);have LF:=hid (fun y W (h:CsAt W cb s y)=>qjtm hm h);have HK:=hid hk;obtain⟨⟨L,Y⟩,hLY⟩:∃z,Cs.filtsW v kind x=z:=⟨_,rfl⟩
 rw[hLY] at hN ⊢;simp only at hN ⊢;have HN:=hid hN;have HLY:=hid hLY;have K0:∀n xs val y W,LsS w cb v kind s 78 5 n xs val y W->W.cell? ⟨w.heap.size,0,none⟩=some (.pointer (some ⟨cb,0,none⟩)):=fun n xs val y W h=>h.cell 0;have K1:∀n xs val y W,LsS w cb v kind s 78 5 n xs val y W->W.cell? ⟨w.heap.size,1,none⟩=some (.int .i64 v):=fun n xs val y W h=>h.cell 1;have K2:∀n xs val y W,LsS w cb v kind s 78 5 n xs val y W->W.cell? ⟨w.heap.size,2,none⟩=some (.int .i64 kind):=fun n xs val y W h=>h.cell 2;replace K0:=hid K0;replace K1:=hid K1;replace K2:=hid K2;unfold rdS at *;clear h hk hN hLY;go_in;go_wp2_with fail
 go_step3
 go_wp2_with fail
 go_step3
 go_wp2_with fail
 go_loopg [3] (qfy2 x) (fun gk s3 wx=>∃(l:List Fi) (y:Cs),gk=qfy2 y/\l++(Cs.filtsW v kind y).1=L/\(Cs.filtsW v kind y).2=Y/\LsS w cb v kind s 78 5 l.length (fcs l) s3 y wx)
 case atStart=>exact⟨[],x,rfl,by rw[HLY.out];rfl,by rw[HLY.out],S0.out⟩
 case round=>
  obtain⟨l,y,rfl,hL,hY,hS⟩:=hrel;have SK:=hid hS;have c0:=K0.out _ _ _ _ _ hS;by_cases he:y.e=0
  ·have ERy:=fun W (h:CsAt W cb s y)=>ER.out y W h;rw[he] at ERy;replace ERy:=hid ERy;have LFy:=fun W (h:CsAt W cb s y)=>LF.out y W h;by_cases hr:y.r=[]
   ·rw[qztl (.inr hr)] at hL hY;have hL:l=L:=by simpa using hL
    have hY:y=Y:=hY;subst hL hY;rw[hr] at LFy;replace LFy:=hid LFy;have HE:=hid he;clear hS hr he;go_wp2_with fail;refine(ERy.out _ SK.out.cs).mono ?_;rintro e W2 ⟨rfl,rfl⟩;go_wp2_with fail;refine(LFy.out _ SK.out.cs).mono ?_;rintro e W3 ⟨rfl,j,rfl⟩;have S3:=hid (SK.out.draws j);go_wp2_with fail;rw[Exit.noGoto_ret];go_ret;obtain⟨A,c,hv,_,hC,hA⟩:=CL.owned S3.out.own S3.out.own.1;exact⟨⟨A,c,by rw[if_pos HE.out];exact congrArg Ending.returned hv,by rw[if_pos HE.out];exact hC,fun g i e=>hA g i e⟩,S3.out.cs,S3.out.g⟩
   ·rw[qwla HK.out he hr] at hL hY;have q1:(((y.r.length:Nat):Int)==0)=false:=by
     have:=List.length_pos_iff.2 hr
     simp;omega
    have FIy:=FI.out y;have hM:qfy2 (y.filt v kind).2<qfy2 y:=by
     have e0:qfy2 y=y.r.length+1:=by unfold qfy2;rw[if_neg (by simpa using he)]
     rw[e0];unfold qfy2;by_cases hz:(y.filt v kind).2.e=0
     ·rw[if_neg (by simpa using hz)]
      have:=qvwn HK.out hz
      omega
     ·rw[if_pos hz];omega
    obtain⟨⟨f,y2⟩,hf⟩:∃z,y.filt v kind=z:=⟨_,rfl⟩
    rw[hf] at hL hY FIy hM;simp only at hL hY FIy hM;have hL2:(l++[f])++(Cs.filtsW v kind y2).1=L:=by rw[<-hL];simp
    have hlen:l.length+1<=70000:=by have h1:=HN.out;rw[<-hL2] at h1;simp only[List.length_append,List.length_cons,List.length_nil] at h1;omega
    have HLL:=hid (And.intro hL2 (And.intro hY (And.intro hM hlen)));have hfc:fcs l++[.string (bs f.topic),.int .i64 f.qos,.bool f.noLocal,.bool f.asPub,.int .i64 f.handling]=fcs (l++[f]):=by unfold fcs;rw[List.flatMap_append];rfl
    have HFC:=hid hfc;unfold fiC at FIy;generalize y.r.length=n at *;replace FIy:=hid FIy;replace LFy:=hid LFy;generalize bs f.topic=x0 at *;generalize f.qos=x1 at *;generalize f.noLocal=x2 at *;generalize f.asPub=x3 at *;generalize f.handling=x4 at *;clear hS hr he hL hY hf hM hL2 hlen hfc;go_wp2_with fail;refine(ERy.out _ SK.out.cs).mono ?_;rintro e W2 ⟨rfl,rfl⟩;go_wp2_with fail;refine(LFy.out _ SK.out.cs).mono ?_;rintro e W3 ⟨rfl,j,rfl⟩;have S3:=hid (SK.out.draws j);generalize wr.drewN j=W3 at *;have c1:=K1.out _ _ _ _ _ S3.out;have c2:=K2.out _ _ _ _ _ S3.out;clear c0;have c0:=K0.out _ _ _ _ _ S3.out;go_wp2_with fail;refine(FIy.out _ S3.out.cs).mono ?_;rintro e W4 ⟨rfl,hc,hg⟩;have S4:=hid (S3.out.call hc hg);have hown:=S4.out.own;clear hc hg c0 c1 c2;go_wp2_with (at_builtin;refine wpList_append_own _ rfl _ _ 36 rfl (w.heap.size+1) 78 i0 (.agg #[.string .empty,.int .i64 0,.bool false,.bool false,.int .i64 0]) 5 40 underlying36 hi hz0 hz1 hz2 rfl (by decide) _ _ _ rfl (hown.alloc _) ⟨W4.heap.size,0,none⟩ 1 1 [.string x0,.int .i64 x1,.bool x2,.bool x3,.int .i64 x4] rfl rfl ?c1 ?c2 ?c3 ?c4 ?c5 ?_)
    case c1=>intro j u hj;match j,hj with
     |0,hj=>simp at hj;subst hj;exact World.cell?_alloc_at _ _ _ _ rfl
     |1,hj=>simp at hj;subst hj;exact World.cell?_alloc_at _ _ _ _ rfl
     |2,hj=>simp at hj;subst hj;exact World.cell?_alloc_at _ _ _ _ rfl
     |3,hj=>simp at hj;subst hj;exact World.cell?_alloc_at _ _ _ _ rfl
     |4,hj=>simp at hj;subst hj;exact World.cell?_alloc_at _ _ _ _ rfl
    case c2=>intro u hu;simp at hu;rcases hu with rfl|rfl|rfl|rfl|rfl<;>rfl
    case c3=>have:=HLL.out.2.2.2;unfold maxLen;omega
    case c4=>have:=HLL.out.2.2.2;omega
    case c5=>have:=lt_of_block S4.out.bx;simp only[World.size_alloc];omega
    intro v' w9 hown' hgrow _;rw[HFC.out] at hown';have S9:=hid (S4.out.more _ hown' hgrow);clear hown' hgrow hown;go_wp2_with fail
    go_roundg (qfy2 y2)
    case measure=>exact HLL.out.2.2.1
    case rel=>exact⟨l++[f],y2,rfl,HLL.out.1,HLL.out.2.1,by rw[List.length_append];exact S9.out⟩
  ·rw[qztl (.inl he)] at hL hY;have hY:y=Y:=hY;subst hY;have ERy:=hid (fun W (h:CsAt W cb s y)=>ER.out y W h);have g1:((y.e:Int)==0)=false:=by simp;omega
   have g2:((y.e:Int) != 0)=true:=by simp;omega
   have HE:=hid he;clear hS he;go_wp2_with fail;refine(ERy.out _ SK.out.cs).mono ?_;rintro e W2 ⟨rfl,rfl⟩;go_wp2_with fail;rw[Exit.noGoto_ret];go_ret;exact⟨⟨none,0,by rw[if_neg HE.out];rfl,by rw[if_neg HE.out];exact fun h=>absurd rfl h,fun g i e=>by cases e⟩,SK.out.cs,SK.out.g⟩
end
theorem q5h3:(prog.info? 3).map (fun i=>(i.zero,i.size,i.bytes))=some (some (.int .i64 0),1,8):=by kernel_rfl
def q4rq(l:List UInt8):List Int:=l.map fun b=>((b.toNat:Nat):Int)
theorem q9a3(x:Cs):x.codes=(q4rq (x.take x.r.length).1,(x.take x.r.length).2):=by
 unfold Cs.codes Cs.take q4rq;by_cases he:x.e=0
 ·simp[he]
 ·simp[he]
theorem q5if(x:Cs)(n:Nat):(x.take n).1.length<=n:=by
 unfold Cs.take;split
 ·exact Nat.zero_le _
 ·split
  ·exact Nat.zero_le _
  ·simp;omega
section
variable{w W W':World}{cb:Nat}{s:ByteArray}{x y z:Cs}{v kind:Int}
theorem qi6w(hm:s.size<=9223372036854775807)(hN:x.codes.1.length<=70000)(h:CsAt w cb s x) :
 Calls prog 182 #[rdS cb v kind] w fun e w'=>(∃A c,e=.returned (.slice A x.codes.1.length c)/\CL w' A (ics x.codes.1)/\∀g i,A=some ⟨g,i,none⟩->w.heap.size<g)/\CsAt w' cb s x.codes.2/\w.grownBy w' (some cb):=by
 obtain⟨i0,hi,hz0,hz1,hz2⟩:=info_parts q5h3;have S0:=hid (LsS.made (v:=v) (kind:=kind) (t:=3) (k:=1) h);have LF:=fun W (h:CsAt W cb s x)=>qjtm hm h;have TK:=fun W (h:CsAt W cb s x)=>qgtr x.r.length hm h;rw[q9a3] at hN ⊢;obtain⟨⟨T,Y⟩,hT⟩:∃z,x.take x.r.length=z:=⟨_,rfl⟩
 rw[hT] at TK hN ⊢;simp only at TK hN ⊢;generalize x.r.length=n at *;have hTs:(bs T).size=T.length:=q5zk T;have hTl:T.length<=70000:=by simpa [q4rq] using hN
 have hTk:∀(k:Nat) (hk:k<(bs T).size),T[k]?=some (bs T)[k]:=fun k hk=>by
  rw[List.getElem?_eq_getElem (show k<T.length by omega)]
  rfl
 replace LF:=hid LF;replace TK:=hid TK;have K0:∀n xs val y W,LsS w cb v kind s 3 1 n xs val y W->W.cell? ⟨w.heap.size,0,none⟩=some (.pointer (some ⟨cb,0,none⟩)):=fun n xs val y W h=>h.cell 0;have HT:=hid (And.intro hTs (And.intro hTl hTk));unfold rdS at *;clear h hT hN;have q0:((bs T).size:Int)<=70000:=by omega
 clear hTs hTl hTk;generalize bs T=t at *;go_in
 go_upto_region 2 with fail
 refine qf2v (S:=fun k W=>LsS w cb v kind s 3 1 0 [] (.slice none 0 0) (if k=2 then Y else x) W) (n:=(n:Nat)) (t:=t) (S0.out.draws 1) (fun k W h=>K0 _ _ _ _ _ h)
  (fun W h=>(LF.out W h.cs).mono fun e W' ⟨he,j,hj⟩=>⟨he,hj▸h.draws j⟩)
  (fun W h=>(TK.out W h.cs).mono fun e W' ⟨he,hc,hg⟩=>⟨he,h.call hc hg⟩) ?_
 intro W hS;have S1:=hid (show LsS w cb v kind s 3 1 0 [] (.slice none 0 0) Y W from hS);clear hS;go_wp2_with fail
 go_loopg [14,3] t.size (fun gk s14 s3 wx=>∃k:Nat,k<=t.size/\gk=t.size-k/\s14=.int .i64 (k:Int)/\LsS w cb v kind s 3 1 k (ics (q4rq (T.take k))) s3 Y wx)
 case atStart=>exact⟨0,Nat.zero_le _,rfl,rfl,S1.out⟩
 case round=>
  obtain⟨k,hk,rfl,rfl,hS⟩:=hrel;have SK:=hid hS;by_cases hlt:k<t.size
  ·have hget:=HT.out.2.2 k hlt;obtain⟨r,hr⟩:∃r,t[k].toNat=r:=⟨_,rfl⟩
   have hlist:ics (q4rq (T.take k))++[.int .i64 (r:Int)]=ics (q4rq (T.take (k+1))):=by obtain⟨hk1,hx⟩:=List.getElem?_eq_some_iff.1 hget;rw[List.take_succ_eq_append_getElem hk1,hx,<-hr];unfold ics q4rq;simp
   have HLI:=hid hlist;have L:=hid hlt;have g1:(k:Int)<(t.size:Int):=by omega
   have hne:¬t=ByteArray.empty:=by intro e;rw[e] at hlt;exact absurd hlt (by simp)
   have hown:=hS.own;have hr8:(r:Int)<256:=by have:=t[k].toNat_lt;omega
   clear hget hlist hS;go_wp2_with (at_builtin;refine wpList_append_own _ rfl _ _ 35 rfl (w.heap.size+1) 3 i0 (.int .i64 0) 1 8 underlying35 hi hz0 hz1 hz2 rfl (by decide) _ _ _ rfl (hown.alloc _) ⟨wr.heap.size,0,none⟩ 1 1 [.int .i64 (r:Int)] rfl rfl ?c1 ?c2 ?c3 ?c4 ?c5 ?_)
   case c1=>intro j u hj;cases j<;>simp at hj;subst hj;exact World.cell?_alloc_at _ _ _ _ rfl
   case c2=>intro u hu;simp at hu;subst hu;rfl
   case c3=>have:=HT.out.1;have:=HT.out.2.1;have:=L.out;unfold maxLen;omega
   case c4=>have:=HT.out.1;have:=HT.out.2.1;have:=L.out;omega
   case c5=>have:=lt_of_block SK.out.bx;simp only[World.size_alloc];omega
   intro v' w9 hown' hgrow _;rw[HLI.out] at hown';have S9:=hid (SK.out.more _ hown' hgrow);clear hown' hgrow hown;go_wp2_with fail
   go_roundg (t.size-(k+1))
   case measure=>have:=L.out;omega
   case rel=>exact⟨k+1,L.out,rfl,by go_num,S9.out⟩
  ·obtain rfl:k=t.size:=by omega
   rw[List.take_of_length_le (by rw[HT.out.1];exact Nat.le_refl _)] at hS;have HS:=hid hS;clear hS hlt hk;go_wp2;go_ret;obtain⟨A,c,hv,_,hC,hA⟩:=CL.owned HS.out.own HS.out.own.1;refine⟨⟨A,c,?_,hC,fun g i e=>hA g i e⟩,HS.out.cs,HS.out.g⟩;have hl:(q4rq T).length=t.size:=by rw[HT.out.1];simp[q4rq]
   rw[hl];exact congrArg Ending.returned hv
end
structure SpS(w:World)(cb:Nat)(v kind:Int)(s:ByteArray)(b:Nat)(y:Cs)(P:Pk)(a:Ad)(W:World):Prop where
 lt:cb<w.heap.size
 g:w.grownBy W (some cb)
 bx:W.heap[w.heap.size]?=some (.cells #[.pointer (some ⟨cb,0,none⟩),.int .i64 v,.int .i64 kind] 179 (0,0))
 rs:W.heap[w.heap.size+1]?=some (.cells pkZ 38 (0,0))
 hb:w.heap.size+1<b
 pk:W.heap[b]?=some (.cells (pkC P a) 38 (0,0))
 cs:CsAt W cb s y
 ps:PL W a.ps P.props
 cl:CL W a.cs (ics P.codes)
 fl:CL W a.fs (fcs P.filters)
 ap:∀g i,a.ps=some ⟨g,i,none⟩\/a.cs=some ⟨g,i,none⟩\/a.fs=some ⟨g,i,none⟩->b<g
 pc:P.props.length<=a.pc
section
variable{w W W':World}{cb b:Nat}{s:ByteArray}{x y z:Cs}{v kind:Int}{P P':Pk}{a a':Ad}
theorem SpS.call(h:SpS w cb v kind s b y P a W)(hc:CsAt W' cb s z)(hg:W.grownBy W' (some cb)):SpS w cb v kind s b z P a W':=by
 have o:∀k,k<W.heap.size->k≠cb->W'.heap[k]?=W.heap[k]? := fun k hk hne=>hg.block k hk (fun e=>hne (Option.some.inj e));have lt:=h.lt;have hb:=h.hb;refine⟨lt,qo6d h.g hg,(o _ (lt_of_block h.bx) (by omega)).trans h.bx,(o _ (lt_of_block h.rs) (by omega)).trans h.rs,hb,(o _ (lt_of_block h.pk) (by omega)).trans h.pk,hc,?_,?_,?_,h.ap,h.pc⟩
 ·exact h.ps.grown hg (fun g i e=>by have:=h.ap g i (.inl e);omega)
 ·exact h.cl.kept hg.size (fun g i e hlt=>o g hlt (by have:=h.ap g i (.inr (.inl e));omega))
 ·exact h.fl.kept hg.size (fun g i e hlt=>o g hlt (by have:=h.ap g i (.inr (.inr e));omega))
theorem SpS.cell(h:SpS w cb v kind s b y P a W)(j:Nat):W.cell? ⟨w.heap.size,j,none⟩=(#[Value.pointer (some ⟨cb,0,none⟩),.int .i64 v,.int .i64 kind]:Array Value)[j]? := cell_of_row _ _ j _ _ _ h.bx
theorem SpS.pcell(h:SpS w cb v kind s b y P a W)(j:Nat):W.cell? ⟨b,j,none⟩=(pkC P a)[j]? := cell_of_row _ _ j _ _ _ h.pk
theorem SpS.fr(h:SpS w cb v kind s b y P a W)(j:Nat):W.frozen? ⟨b,j,none⟩=false:=frozen_of_row _ _ _ _ _ h.pk
theorem SpS.set(h:SpS w cb v kind s b y P a W)(j:Nat)(u:Value)(he:(pkC P a).setIfInBounds j u=pkC P' a')
 (ps:PL W a'.ps P'.props) (cl:CL W a'.cs (ics P'.codes)) (fl:CL W a'.fs (fcs P'.filters)) (ap:∀g i,a'.ps=some ⟨g,i,none⟩\/a'.cs=some ⟨g,i,none⟩\/a'.fs=some ⟨g,i,none⟩->b<g) (pc:P'.props.length<=a'.pc) :
 SpS w cb v kind s b y P' a' (W.setCell ⟨b,j,none⟩ u):=by
 have o:∀k,k≠b->(W.setCell ⟨b,j,none⟩ u).heap[k]?=W.heap[k]? := fun k hk=>heap_setCell_other W ⟨b,j,none⟩ k u hk;have sz:W.heap.size<=(W.setCell ⟨b,j,none⟩ u).heap.size:=by simp[World.setCell]
 have lt:=h.lt;have hb:=h.hb;refine⟨lt,⟨h.g.os,h.g.tape,h.g.output,Nat.le_trans h.g.size sz,fun k hk hne=>(o k (by omega)).trans (h.g.block k hk hne)⟩,(o _ (by omega)).trans h.bx,(o _ (by omega)).trans h.rs,hb,?_,h.cs.of_block (o _ (by omega)),?_,?_,?_,ap,pc⟩
 ·have:=qlvy h.pk j u;rw[he] at this;exact this
 ·exact ps.kept sz (fun g i e _=>o g (by have:=ap g i (.inl e);omega))
 ·exact cl.kept sz (fun g i e _=>o g (by have:=ap g i (.inr (.inl e));omega))
 ·exact fl.kept sz (fun g i e _=>o g (by have:=ap g i (.inr (.inr e));omega))
structure SwS(w:World)(cb:Nat)(v kind:Int)(s:ByteArray)(y z:Cs)(D:Array Value)(x:XG)(W:World):Prop where
 lt:cb<w.heap.size
 g:w.grownBy W (some cb)
 bx:W.heap[w.heap.size]?=some (.cells #[.pointer (some ⟨cb,0,none⟩),.int .i64 v,.int .i64 kind] 179 (0,0))
 rs:W.heap[w.heap.size+1]?=some (.cells pkZ 38 (0,0))
 cs:CsAt W cb s (if xn x then z else y)
 pk:∀b,xa x=some b->w.heap.size+1<b/\W.heap[b]?=some (.cells (if xs x then D else pkZ) 38 (0,0))
theorem SwS.cell{D:Array Value}{q:XG}(h:SwS w cb v kind s y z D q W)(j:Nat):W.cell? ⟨w.heap.size,j,none⟩=(#[Value.pointer (some ⟨cb,0,none⟩),.int .i64 v,.int .i64 kind]:Array Value)[j]? := cell_of_row _ _ j _ _ _ h.bx
theorem SwS.num{D:Array Value}{g:Option Nat}(h:SwS w cb v kind s y z D (false,g,false) W)(hc:CsAt W' cb s z)(hg:W.grownBy W' (some cb)):SwS w cb v kind s y z D (true,g,false) W':=by have o:∀k,k<W.heap.size->k≠cb->W'.heap[k]?=W.heap[k]? := fun k hk hne=>hg.block k hk (fun e=>hne (Option.some.inj e));have lt:=h.lt;refine⟨lt,qo6d h.g hg,(o _ (lt_of_block h.bx) (by omega)).trans h.bx,(o _ (lt_of_block h.rs) (by omega)).trans h.rs,hc,fun b hb=>?_⟩;obtain⟨h1,h2⟩:=h.pk b hb;exact⟨h1,(o b (lt_of_block h2) (by omega)).trans h2⟩
theorem SwS.put{D:Array Value}{b:Nat}(h:SwS w cb v kind s y z D (true,some b,false) W):SwS w cb v kind s y z D (true,some b,true) (W.setRow b D):=by obtain⟨h1,h2⟩:=h.pk b rfl;have lt:=h.lt;refine⟨lt,qacl h.g (by omega) _,(setRow_other _ _ _ _ (by omega)).trans h.bx,(setRow_other _ _ _ _ (by omega)).trans h.rs,h.cs.of_block (setRow_other _ _ _ _ (by omega)),fun c hc=>?_⟩;obtain rfl:b=c:=Option.some.inj hc;exact⟨h1,setRow_heap _ _ _ _ _ _ h2⟩
theorem q0qi(x:Cs):(x.num 2).1<65536:=by
 unfold Cs.num
 have:=qn9h (x.take 2).1
 have hl:=q5if x 2
 have:256^(x.take 2).1.length<=256^2:=Nat.pow_le_pow_right (by decide) hl
 omega
theorem qubv(hkd:qfws kind=true)(hk0:-9223372036854775808<=kind)(hk1:kind<=9223372036854775807)(hm:s.size<=9223372036854775807)(hf:((x.num 2).2.props v kind).2.r.length<=70000\/(qsfj kind=true/\(Cs.filtsW v kind ((x.num 2).2.props v kind).2).1.length<=70000))(h:CsAt w cb s x) :
 Calls prog 142 #[rdS cb v kind] w fun e w'=>(∃a,e=.returned (.agg (pkC (q4qr v kind x).1 a))/\PkAt w' (q4qr v kind x).1 a/\(q4qr v kind x).1.props.length<=a.pc/\a.w=none/\∀g i,a.ps=some ⟨g,i,none⟩\/a.cs=some ⟨g,i,none⟩\/a.fs=some ⟨g,i,none⟩->w.heap.size<g)/\CsAt w' cb s (q4qr v kind x).2/\w.grownBy w' (some cb):=by
 have hk4:8<=kind/\kind<=11:=by simpa [qfws] using hkd
 have NM:=fun W (h:CsAt W cb s x)=>q8yf 2 (by decide) hm h;have hz:=q0qi x;unfold q4qr;obtain⟨⟨z1,z2⟩,hzz⟩:∃z,x.num 2=z:=⟨_,rfl⟩
 rw[hzz] at NM hz hf ⊢;simp only at NM hz hf ⊢;have PR:=fun W (h:CsAt W cb s z2)=>qzvp (v:=v) hk0 hk1 hm h;obtain⟨⟨L,y3⟩,hp⟩:∃z,z2.props v kind=z:=⟨_,rfl⟩
 rw[hp] at PR hf ⊢;simp only at PR hf ⊢;have FS:=fun(hk:kind=8\/kind=10) (hn:(Cs.filtsW v kind y3).1.length<=70000) W (h:CsAt W cb s y3)=>qrro (v:=v) hk hm hn h;have CO:=fun(hn:y3.codes.1.length<=70000) W (h:CsAt W cb s y3)=>qi6w (v:=v) (kind:=kind) hm hn h;have hlen:(Cs.filtsW v kind y3).1.length<=y3.r.length:=q8jt _ _;have hcl:y3.codes.1.length<=y3.r.length:=by unfold Cs.codes;split;exact Nat.zero_le _;simp
 obtain⟨D,hD⟩:∃D,pkC {Pk.zero with kind:=kind,id:=(z1:Int)} adZ=D:=⟨_,rfl⟩
 have hD1:D.size=25:=by rw[<-hD];exact qwmp _ _
 have hD2:D.all (·.oneCell')=true:=by rw[<-hD];exact qmz0 _ _
 have W0:SwS w cb v kind s x z2 D (false,none,false) (((w.alloc (.cells #[.pointer (some ⟨cb,0,none⟩),.int .i64 v,.int .i64 kind] 179)).alloc (.cells pkZ 38)).drew):=
  ⟨h.lt,qo6d (qo6d (World.grownBy_alloc _ _ _) (World.grownBy_alloc _ _ _)) (q9cp (qnpu (Below.refl _ _) 1) _),heap_alloc2_old _ _ _,heap_alloc2_new _ _ _,((h.alloc _).alloc _).draws 1,fun b e=>by cases e⟩
 generalize hP:(if qsfj kind=true then _ else _)=PY;obtain⟨P,Y⟩:=PY;simp only;have HP:=hid hP;clear hP;have HD:=hid hD;have HD1:=hid hD1;have HD2:=hid hD2;have HW0:=hid W0;have hzv:=qrai;have hne:¬pkZ=#[]:=by intro h;have:=qbwp;rw[h] at this;cases this
 have HZ:=hid qbwp;replace NM:=hid NM;replace PR:=hid PR;unfold rdS at *;clear h hD hD1 hD2 W0 hzz hp;go_in
 go_upto_region 1 with fail
 clear hzv hne;refine q3p3 (S:=SwS w cb v kind s x z2 D) (i:=(z1:Int)) HW0.out HD1.out HD2.out HD.out (by omega) (by omega) (fun x W h=>h.cell 0) (fun x W h=>h.cell 2)
  (fun g W h=>(NM.out W h.cs).mono fun e W' ⟨he,hc,hg⟩=>⟨he,h.num hc hg⟩)
  (fun n W h=>⟨h.lt,qo6d h.g (World.grownBy_alloc _ _ _),(heap_alloc_old _ _ (lt_of_block h.bx)).trans h.bx,(heap_alloc_old _ _ (lt_of_block h.rs)).trans h.rs,h.cs.alloc _,fun b hb=>by obtain rfl:W.heap.size=b:=Option.some.inj hb;exact⟨lt_of_block h.rs,heap_alloc_new _ _⟩⟩)
  (fun g W h=>⟨(h.pk g rfl).2,h.put⟩) ?_
 intro b W h;have S1:=hid (show SpS w cb v kind s b z2 {Pk.zero with kind:=kind,id:=(z1:Int)} adZ W from
  ⟨h.lt,h.g,h.bx,h.rs,(h.pk b rfl).1,by rw[HD.out];exact(h.pk b rfl).2,h.cs,PL.nil,CL.nil,CL.nil,fun g i e=>(by rcases e with e|e|e<;>cases e),Nat.le_refl _⟩)
 have c0:W.cell? ⟨w.heap.size,0,none⟩=some (.pointer (some ⟨cb,0,none⟩)):=S1.out.cell 0;have c1:W.cell? ⟨w.heap.size,1,none⟩=some (.int .i64 v):=S1.out.cell 1;have c2:W.cell? ⟨w.heap.size,2,none⟩=some (.int .i64 kind):=S1.out.cell 2;have HZ4:=hid hk4;have HF:=hid (And.intro hf (And.intro hlen hcl));clear h HW0 hz NM hf hlen hcl hk4 hkd HD1 HD2;go_wp2_with fail;refine(PR.out _ S1.out.cs).mono ?_;rintro e W2 ⟨⟨A,c,rfl,hLc,hPL,hAd⟩,hc,hg⟩;have S2:=hid (S1.out.call hc hg);have n24:W2.cell? ⟨b,24,none⟩=some (.slice none 0 0):=S2.out.pcell 24;have f24:=S2.out.fr 24;have S3:=hid (S2.out.set 24 (.slice A L.length c) (P':={Pk.zero with kind:=kind,id:=(z1:Int),props:=L}) (a':={adZ with ps:=A,pc:=c}) rfl hPL CL.nil CL.nil (fun g i e=>by
  rcases e with e|e|e
  ·exact Nat.lt_trans (lt_of_block S1.out.pk) (hAd g i e)
  ·cases e
  ·cases e) hLc)
 clear c0 c1 c2 hc hg hPL hAd hLc PR;have AS:=hid (qczm kind);have c0:(W2.setCell ⟨b,24,none⟩ (.slice A L.length c)).cell? ⟨w.heap.size,0,none⟩=some (.pointer (some ⟨cb,0,none⟩)):=S3.out.cell 0;have c1:(W2.setCell ⟨b,24,none⟩ (.slice A L.length c)).cell? ⟨w.heap.size,1,none⟩=some (.int .i64 v):=S3.out.cell 1;have c2:(W2.setCell ⟨b,24,none⟩ (.slice A L.length c)).cell? ⟨w.heap.size,2,none⟩=some (.int .i64 kind):=S3.out.cell 2;go_wp2_with fail;refine(AS.out _).mono ?_;rintro e W4 ⟨rfl,rfl⟩;generalize W2.setCell ⟨b,24,none⟩ (.slice A L.length c)=W3 at *;clear S2 n24 f24 S1;have ask:=q9zy HZ4.out;cases ha:qsfj kind with
 |true=>
  rw[ha] at HF ask;have hk8:kind=8\/kind=10:=by
   rcases ask with ⟨_,h⟩|⟨h,_⟩
   ·exact h
   ·cases h
  have FS:=FS hk8 (by
   rcases HF.out.1 with h|⟨_,h⟩;·have:=HF.out.2.1;omega
   ·exact h)
  have hP:=HP.out;rw[ha,if_pos rfl] at hP;obtain⟨⟨M,y4⟩,hM⟩:∃z,Cs.filtsW v kind y3=z:=⟨_,rfl⟩
  rw[hM] at FS hP;simp only at FS hP;obtain⟨N,hN⟩:∃N,(if y4.e=0 then M else [])=N:=⟨_,rfl⟩
  rw[hN] at FS hP;simp only[Prod.mk.injEq] at hP;obtain⟨rfl,rfl⟩:=hP;clear HP;replace FS:=hid FS;clear ha ask hM hN HF CO hk8 AS;go_wp2_with fail;refine(FS.out _ S3.out.cs).mono ?_;rintro e W5 ⟨⟨A2,cc,rfl,hCL,hAd⟩,hc,hg⟩;have S5:=hid (S3.out.call hc hg);have n23:W5.cell? ⟨b,23,none⟩=some (.slice none 0 0):=S5.out.pcell 23;have f23:=S5.out.fr 23;have S6:=hid (S5.out.set 23 (.slice A2 N.length cc) (P':={Pk.zero with kind:=kind,id:=(z1:Int),props:=L,filters:=N}) (a':={adZ with ps:=A,pc:=c,fs:=A2,fc:=cc}) rfl S5.out.ps CL.nil hCL (fun g i e=>by
   rcases e with e|e|e
   ·exact S5.out.ap g i (.inl e)
   ·cases e
   ·exact Nat.lt_trans (lt_of_block S3.out.pk) (hAd g i e)) S5.out.pc)
  have G6:=S6.out.pk;have R6:=hid S6.out.rs;have hR1:=qwmp {Pk.zero with kind:=kind,id:=(z1:Int),props:=L,filters:=N} {adZ with ps:=A,pc:=c,fs:=A2,fc:=cc};have hR2:=qmz0 {Pk.zero with kind:=kind,id:=(z1:Int),props:=L,filters:=N} {adZ with ps:=A,pc:=c,fs:=A2,fc:=cc};obtain⟨R,hR⟩:∃R,pkC {Pk.zero with kind:=kind,id:=(z1:Int),props:=L,filters:=N} {adZ with ps:=A,pc:=c,fs:=A2,fc:=cc}=R:=⟨_,rfl⟩
  rw[hR] at G6 hR1 hR2;have HR:=hid hR;replace G6:=hid G6;have HR1:=hid hR1;have HR2:=hid hR2;clear hR1 hR2 hR hc hg hCL hAd c0 c1 c2 S3;go_wp2_with (first
   |(refine wpList_load_row rfl _ _ rfl b rfl 38 R (0,0) _ G6.out underlying38 rfl (by rw[HR1.out];exact q5nr) ?_)
   |(refine wpList_store_row rfl _ _ _ rfl (w.heap.size+1) R rfl rfl 38 _ R6.out (by rw[HR1.out];exact q5nr) (by rw[HZ.out,HR1.out]) HR2.out ?_))
  have LT:=S6.out.lt;have HB:=S6.out.hb;have q1:=fun g i (h:_\/_\/_)=>S6.out.ap g i h;refine q7wi (cs:=R) rfl rfl rfl underlying38 rfl (by rw[HR1.out];exact q5nr) (setRow_heap _ _ _ _ _ _ R6.out) ⟨⟨{adZ with ps:=A,pc:=c,fs:=A2,fc:=cc},by rw[HR.out],⟨fun e=>absurd rfl e,CL.nil,?_,?_⟩,S6.out.pc,rfl,fun g i h=>by have:=q1 g i h;omega⟩,?_,?_⟩
  ·exact S6.out.fl.kept (by simp[World.setRow]) (fun g i e _=>setRow_other _ _ _ _ (by have:=q1 g i (.inr (.inr e));omega))
  ·exact S6.out.ps.kept (by simp[World.setRow]) (fun g i e _=>setRow_other _ _ _ _ (by have:=q1 g i (.inl e);omega))
  ·exact S6.out.cs.of_block (setRow_other _ _ _ _ (by omega))
  ·exact qacl S6.out.g (by omega) _
 |false=>
  rw[ha] at HF;have CO:=CO (by
   rcases HF.out.1 with h|⟨h,_⟩;·have:=HF.out.2.2;omega
   ·cases h)
  have hP:=HP.out;rw[ha,if_neg (by decide)] at hP;obtain⟨⟨N,y4⟩,hM⟩:∃z,y3.codes=z:=⟨_,rfl⟩
  rw[hM] at CO hP;simp only at CO hP;simp only[Prod.mk.injEq] at hP;obtain⟨rfl,rfl⟩:=hP;clear HP;replace CO:=hid CO;clear ha ask hM HF FS AS;go_wp2_with fail;refine(CO.out _ S3.out.cs).mono ?_;rintro e W5 ⟨⟨A2,cc,rfl,hCL,hAd⟩,hc,hg⟩;have S5:=hid (S3.out.call hc hg);have n22:W5.cell? ⟨b,22,none⟩=some (.slice none 0 0):=S5.out.pcell 22;have f22:=S5.out.fr 22;have S6:=hid (S5.out.set 22 (.slice A2 N.length cc) (P':={Pk.zero with kind:=kind,id:=(z1:Int),props:=L,codes:=N}) (a':={adZ with ps:=A,pc:=c,cs:=A2,cc:=cc}) rfl S5.out.ps hCL CL.nil (fun g i e=>by
   rcases e with e|e|e
   ·exact S5.out.ap g i (.inl e)
   ·exact Nat.lt_trans (lt_of_block S3.out.pk) (hAd g i e)
   ·cases e) S5.out.pc)
  have G6:=S6.out.pk;have R6:=hid S6.out.rs;have hR1:=qwmp {Pk.zero with kind:=kind,id:=(z1:Int),props:=L,codes:=N} {adZ with ps:=A,pc:=c,cs:=A2,cc:=cc};have hR2:=qmz0 {Pk.zero with kind:=kind,id:=(z1:Int),props:=L,codes:=N} {adZ with ps:=A,pc:=c,cs:=A2,cc:=cc};obtain⟨R,hR⟩:∃R,pkC {Pk.zero with kind:=kind,id:=(z1:Int),props:=L,codes:=N} {adZ with ps:=A,pc:=c,cs:=A2,cc:=cc}=R:=⟨_,rfl⟩
  rw[hR] at G6 hR1 hR2;have HR:=hid hR;replace G6:=hid G6;have HR1:=hid hR1;have HR2:=hid hR2;clear hR1 hR2 hR hc hg hCL hAd c0 c1 c2 S3;go_wp2_with (first
   |(refine wpList_load_row rfl _ _ rfl b rfl 38 R (0,0) _ G6.out underlying38 rfl (by rw[HR1.out];exact q5nr) ?_)
   |(refine wpList_store_row rfl _ _ _ rfl (w.heap.size+1) R rfl rfl 38 _ R6.out (by rw[HR1.out];exact q5nr) (by rw[HZ.out,HR1.out]) HR2.out ?_))
  have LT:=S6.out.lt;have HB:=S6.out.hb;have q1:=fun g i (h:_\/_\/_)=>S6.out.ap g i h;refine q7wi (cs:=R) rfl rfl rfl underlying38 rfl (by rw[HR1.out];exact q5nr) (setRow_heap _ _ _ _ _ _ R6.out) ⟨⟨{adZ with ps:=A,pc:=c,cs:=A2,cc:=cc},by rw[HR.out],⟨fun e=>absurd rfl e,?_,CL.nil,?_⟩,S6.out.pc,rfl,fun g i h=>by have:=q1 g i h;omega⟩,?_,?_⟩
  ·exact S6.out.cl.kept (by simp[World.setRow]) (fun g i e _=>setRow_other _ _ _ _ (by have:=q1 g i (.inr (.inl e));omega))
  ·exact S6.out.ps.kept (by simp[World.setRow]) (fun g i e _=>setRow_other _ _ _ _ (by have:=q1 g i (.inl e);omega))
  ·exact S6.out.cs.of_block (setRow_other _ _ _ _ (by omega))
  ·exact qacl S6.out.g (by omega) _
end
theorem qhoa(v:Int)(p:Pk)(a:Ad)(w:World)(hp:PL w a.ps p.props)(ok:PkOk p)(hc:p.props.length<=a.pc) :
 Calls prog 138 #[.int .i64 v,.agg (pkC p a)] w fun e w'=>e=.returned (.string (bs (tailC v p.kind p.props)))/\Below w.heap.size w w':=by
 have S0:=hid (BxS.made w p a);unfold tailC;by_cases h5:v=5
 ·subst h5;rw[if_pos rfl];have BY:=fun W (h:BxS w p a W)=>qs01 p.kind a.ps p.props.length a.pc p.props W ok.kind.1 ok.kind.2 (hp.below h.low) rfl hc (fun x hx=>(ok.pps x hx).1);have k0:(w.alloc (.cells (pkC p a) 38)).cell? ⟨w.heap.size,0,none⟩=some (.int .i64 p.kind):=S0.out.cell 0;have k24:(w.alloc (.cells (pkC p a) 38)).cell? ⟨w.heap.size,24,none⟩=some (.slice a.ps p.props.length a.pc):=S0.out.cell 24;generalize (q5aq p.kind p.props).1=T at *;generalize (q5aq p.kind p.props).2=q at *;replace BY:=hid BY;clear hp ok hc;go_in;go_wp2_with fail;refine(BY.out _ S0.out).mono ?_;rintro e W ⟨rfl,hb⟩;have LO:=hid (S0.out.call hb).low;clear hb;go_wp2;go_ret;exact⟨rfl,LO.out⟩
 ·rw[if_neg h5];have h':(v==5)=false:=beq_eq_false_iff_ne.2 h5;have h'':(v != 5)=true:=by simpa using h5
  have LO:=hid S0.out.low;clear h5 hp ok hc;go_in;go_wp2;go_ret;exact⟨rfl,LO.out⟩
theorem q9ic(t:List UInt8):(enc2 t).length=2+t.length:=by rw[qnp6];try omega
theorem qpa5(kind:Int)(f:Fi)(w:World)(hk:kind=8\/kind=10)(hv:qecx f.topic=true) :
 Calls prog 139 #[.int .i64 kind,.agg (fiC f)] w fun e w'=>e=.returned (.string (bs (qjk5 kind f)))/\Below w.heap.size w w':=by
 have S0:=hid (BxF.made w f);have F1:=hid (qxzo f);have k0:(w.alloc (.cells (fiC f) 78)).cell? ⟨w.heap.size,0,none⟩=some (.string (bs f.topic)):=S0.out.cell 0;have hlt:f.topic.length<=65535:=((qbv6 _).1 hv).1;have TX:=fun W=>q9xc (bs f.topic) W (by rw[qkd1];exact hv);rw[qkd1] at TX;rcases hk with rfl|rfl
 ·have OP:=hid (fun W (h:BxF w f W)=>(q3gr f W).mono fun e W' hh=>(⟨hh.1,h.call hh.2⟩:_/\BxF w f W'));have hm:qang f<256:=by
   unfold qang bitC;have h1:(f.qos%4).toNat<4:=by omega
   have h2:(f.handling%4).toNat<4:=by omega
   split<;>split<;>omega
  have PU:=fun W=>qe3g (qang f) 1 W (by omega);have ho:be (qang f) ((min (1:Int) 16).toNat)=[UInt8.ofNat (qang f)]:=by show be (qang f) 1=_;exact qwu8 _
  rw[ho] at PU;unfold qjk5;rw[if_pos rfl];have e1:bs (enc2 f.topic)++bs [UInt8.ofNat (qang f)]=bs (enc2 f.topic++[UInt8.ofNat (qang f)]):=qyv7 _ _;have s1:¬9223372036854775807<(bs (enc2 f.topic)).size+(bs [UInt8.ofNat (qang f)]).size:=by rw[q5zk,q5zk,q9ic];simp;omega
  generalize bs (enc2 f.topic++[UInt8.ofNat (qang f)])=Z at *;generalize bs [UInt8.ofNat (qang f)]=Y at *;generalize qang f=m at *;generalize bs (enc2 f.topic)=X at *;generalize bs f.topic=T at *;replace TX:=hid TX;replace PU:=hid PU;have HM:=hid (show(m:Int)<256 by omega);have E1:=hid (And.intro e1 s1);clear hv hlt hm ho e1 s1;go_in;go_wp2_with fail;refine(TX.out _).mono ?_;rintro e W ⟨rfl,hb⟩;have S1:=hid (S0.out.call hb);clear hb k0;go_wp2_with (refine wpList_load_row rfl _ _ rfl w.heap.size rfl 78 _ (0,0) _ S1.out.box underlying78 rfl (by rw[F1.out];exact qhg6) ?_);refine(OP.out _ S1.out).mono ?_;rintro e W2 ⟨rfl,hb⟩;have L2:=hid hb.low;have hm:=HM.out;clear hb;go_wp2_with fail;refine(PU.out _).mono ?_;rintro e W3 ⟨rfl,hb⟩;have L3:=hid (qxh2 L2.out hb);obtain⟨e1,s1⟩:=E1.out;clear hb hm;go_wp2;go_ret;exact⟨rfl,L3.out⟩
 ·unfold qjk5;rw[if_neg (by decide),List.append_nil];generalize bs (enc2 f.topic)=X at *;generalize bs f.topic=T at *;replace TX:=hid TX;clear hv hlt;go_in;go_wp2_with fail;refine(TX.out _).mono ?_;rintro e W ⟨rfl,hb⟩;have L2:=hid (S0.out.call hb).low;clear hb k0;go_wp2;go_ret;exact⟨rfl,L2.out⟩
end Go.Proofs.YtefmhbioggcfaaaGreatDoor
