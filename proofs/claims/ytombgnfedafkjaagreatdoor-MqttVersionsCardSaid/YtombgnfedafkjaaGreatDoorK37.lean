/- The contract of prop.Read, as a law's walk wants it. Condition: the bytes are no more than an int says. -/
import Derived.Test.YtombgnfedafkjaaGreatDoorK36
set_option maxRecDepth 100000
set_option maxHeartbeats 2000000
namespace Go.Proofs.YtombgnfedafkjaaGreatDoor
open Lib(hid)
open Proofs.Tryz
open Go.RowKit
theorem q188(kind:Int)(s:ByteArray)(L:List Pr)(k F:Nat)(hk0:-9223372036854775808<=kind)(hk1:kind<=9223372036854775807)(hm:s.size<=9223372036854775807)(hq:qflw kind s.data.toList=(L,k,F))(W:World) :
 Calls prog 146 #[.int .i64 kind,.string s] W fun e W'=>Below W.heap.size W W'/\∃A c,e=.returned (.tuple #[.slice A L.length c,.int .i64 (k:Nat),.int .i64 (F:Nat)])/\L.length<=c/\PL W' A L/\(∀p∈L,PrOk p)/\L.length<=1000/\∀g i,A=some ⟨g,i,none⟩->W.heap.size<=g:=by
 have:=q3kx kind s W hk0 hk1 hm
 rw[hq] at this;refine this.mono fun e W' ⟨hb,ok,hl,v,he,ho⟩=>⟨hb,?_⟩
 obtain⟨A,c,rfl,hc,hP,hg⟩:=PL.owned ho rfl;exact⟨A,c,he,hc,hP,ok,hl,hg⟩
def rdS(cb:Nat)(v kind:Int):Value := .agg #[.pointer (some ⟨cb,0,none⟩),.int .i64 v,.int .i64 kind]
section
variable{w W W':World}{cb:Nat}{s:ByteArray}{x:Cs}{v kind:Int}
theorem qq7p(w:World)(cb:Nat)(v kind:Int):(w.alloc (.cells #[.pointer (some ⟨cb,0,none⟩),.int .i64 v,.int .i64 kind] 147)).heap[w.heap.size]?=some (.cells #[.pointer (some ⟨cb,0,none⟩),.int .i64 v,.int .i64 kind] 147 (0,0)):=heap_alloc_new w _
theorem qnsg(hm:s.size<=9223372036854775807)(h:CsAt w cb s x) :
 Calls prog 202 #[rdS cb v kind] w fun e w'=>e=.returned (.string (bs x.ahead))/\Below w.heap.size w w':=by
 have B0:=hid (qybm (w:=w) (.cells #[.pointer (some ⟨cb,0,none⟩),.int .i64 v,.int .i64 kind] 147));have h0:=h.alloc (.cells #[.pointer (some ⟨cb,0,none⟩),.int .i64 v,.int .i64 kind] 147);have LF:=hid (fun n=>qjtm hm (h0.draws n));have PK:=hid (fun n=>qitj hm (h0.draws n));have DR:∀a b:Nat,((w.alloc (.cells #[.pointer (some ⟨cb,0,none⟩),.int .i64 v,.int .i64 kind] 147)).drewN a).drewN b=(w.alloc (.cells #[.pointer (some ⟨cb,0,none⟩),.int .i64 v,.int .i64 kind] 147)).drewN (a+b):=fun a b=>by simp
 have DR:=hid DR;unfold rdS;clear h h0;go_in;go_wp2_with fail;go_quiet (first
  |(go_at_call 77;exact(LF.out _).mono fun _ _ h=>⟨h.1,qrso h.2⟩)
  |(go_at_call 232;exact(PK.out _).mono fun _ _ h=>⟨h.1,qrso h.2⟩))
 go_wp2;go_ret;exact⟨rfl,qnpu B0.out _⟩
theorem qo6b(k f:Nat)(hk:k<=x.r.length)(hm:s.size<=9223372036854775807)(h:CsAt w cb s x) :
 Calls prog 203 #[rdS cb v kind,.int .i64 (k:Nat),.int .i64 (f:Nat)] w fun e w'=>e=.returned (.tuple #[])/\CsAt w' cb s (if x.e=0 then⟨x.r.drop k,f⟩ else x)/\w.grownBy w' (some cb):=by
 have G0:=hid (World.grownBy_alloc w (.cells #[.pointer (some ⟨cb,0,none⟩),.int .i64 v,.int .i64 kind] 147) (some cb));have h0:=h.alloc (.cells #[.pointer (some ⟨cb,0,none⟩),.int .i64 v,.int .i64 kind] 147);have TK:=hid (qgtr k hm h0);have e1:((x.take k).2.fail f)=if x.e=0 then⟨x.r.drop k,f⟩ else x:=by
  unfold Cs.take Cs.fail;by_cases he:x.e=0
  ·simp[he,show ¬x.r.length<k by omega]
  ·simp[he]
 rw[<-e1];have BX:=hid (qq7p w cb v kind);have hne:w.heap.size≠cb:=Nat.ne_of_gt h.lt;unfold rdS;clear h h0 e1 hk;go_in;go_wp2_with fail;refine(TK.out).mono ?_;rintro e w2 ⟨rfl,hc,hg⟩;have hb2:=(hg.block w.heap.size (by simp) (fun e=>hne (Option.some.inj e))).trans BX.out;have c0:w2.cell? ⟨w.heap.size,0,none⟩=some (.pointer (some ⟨cb,0,none⟩)):=cell_of_row _ _ 0 _ _ _ hb2;have FL:=hid (qazj f hc);have HG:=hid (qo6d G0.out hg);clear hc hg hb2;go_wp2_with fail;refine(FL.out).mono ?_;rintro e w3 ⟨rfl,hc,hg⟩;have HC:=hid hc;have HG2:=hid (qo6d HG.out hg);clear hc hg c0;go_wp2_with fail
 go_end0
 exact⟨rfl,HC.out,HG2.out⟩
theorem qzvp(hk0:-9223372036854775808<=kind)(hk1:kind<=9223372036854775807)(hm:s.size<=9223372036854775807)(h:CsAt w cb s x) :
 Calls prog 157 #[rdS cb v kind] w fun e w'=>(∃A c,e=.returned (.slice A (x.props v kind).1.length c)/\(x.props v kind).1.length<=c/\PL w' A (x.props v kind).1/\∀g i,A=some ⟨g,i,none⟩->w.heap.size<g)/\CsAt w' cb s (x.props v kind).2/\w.grownBy w' (some cb):=by
 have G0:=hid (World.grownBy_alloc w (.cells #[.pointer (some ⟨cb,0,none⟩),.int .i64 v,.int .i64 kind] 147) (some cb));have h0:=h.alloc (.cells #[.pointer (some ⟨cb,0,none⟩),.int .i64 v,.int .i64 kind] 147);have H0:=hid h0;have BX:=hid (qq7p w cb v kind);have c1:(w.alloc (.cells #[.pointer (some ⟨cb,0,none⟩),.int .i64 v,.int .i64 kind] 147)).cell? ⟨w.heap.size,1,none⟩=some (.int .i64 v):=cell_of_row _ _ 1 _ _ _ BX.out;by_cases h5:v=5
 ·subst h5;have AH:=fun W (h:CsAt W cb s x)=>qnsg (v:=5) (kind:=kind) hm h;have hle:x.ahead.length<=x.r.length:=by unfold Cs.ahead;split;exact Nat.le_refl _;exact Nat.zero_le _
  obtain⟨L,k,F,hq⟩:∃L k F,qflw kind x.ahead=(L,k,F):=⟨_,_,_,rfl⟩
  have RD:=fun W=>q188 kind (bs x.ahead) L k F hk0 hk1 (by rw[q5zk];have:=h.len;omega) hq W;have hk2:k<=x.r.length:=by
   by_cases hF:F=0
   ·subst hF
    have:=(qugf hq).2.1
    omega
   ·have:=qjfk (kind:=kind) (s:=x.ahead) (by rw[hq];exact hF)
    rw[hq] at this
    have:k=0:=congrArg (fun z=>z.2.1) this
    omega
  have e1:x.props 5 kind=(L,if x.e=0 then⟨x.r.drop k,F⟩ else x):=by
   unfold Cs.props;by_cases he:x.e=0
   ·unfold Cs.ahead at hq;rw[if_pos he] at hq;simp[he,hq]
   ·unfold Cs.ahead at hq;rw[if_neg he,qjdx] at hq;simp[he,<-(Prod.mk.inj hq).1]
  rw[e1];have PS:=fun W (h:CsAt W cb s x)=>qo6b (v:=5) (kind:=kind) k F hk2 hm h;generalize (if x.e=0 then(⟨x.r.drop k,F⟩:Cs) else x)=y at *;generalize bs x.ahead=t at *;have CB:=hid h.lt;unfold rdS at *;replace AH:=hid AH;replace RD:=hid RD;replace PS:=hid PS;clear h h0 hle hk2 e1 hq;go_in
  go_upto_region 3 with fail
  clear c1;refine qje9 (S:=fun z V=>CsAt V cb s x/\w.grownBy V (some cb)/\V.heap[w.heap.size]?=some (.cells #[.pointer (some ⟨cb,0,none⟩),.int .i64 5,.int .i64 kind] 147 (0,0))/\∀A c,z=some (A,c)->PL V A L/\L.length<=c/\∀g i,A=some ⟨g,i,none⟩->w.heap.size<g) (n:=L.length) (k:=(k:Int)) (f:=(F:Int)) (t:=t)
   ⟨H0.out.draws 1,qo6d G0.out (q9cp (qnpu (Below.refl _ _) 1) (some cb)),BX.out,fun A c e=>by cases e⟩ (fun z V hS=>hS.2.2.1) (fun z V hS=>cell_of_row _ _ 2 _ _ _ hS.2.2.1)
   (fun z V hS=>(AH.out V hS.1).mono fun e W' ⟨he,hb⟩=>⟨he,hS.1.below hb,qo6d hS.2.1 (q9cp hb (some cb)),(hb.block _ (lt_of_block hS.2.2.1)).trans hS.2.2.1,fun A c e=>by obtain⟨p1,p2,p3⟩:=hS.2.2.2 A c e;exact⟨p1.below hb,p2,p3⟩⟩)
   (fun z V hS=>(RD.out V).mono fun e W' ⟨hb,A,c,he,hc,hP,_,_,hA⟩=>⟨A,c,he,hS.1.below hb,qo6d hS.2.1 (q9cp hb (some cb)),(hb.block _ (lt_of_block hS.2.2.1)).trans hS.2.2.1,fun A' c' e=>by cases e;exact⟨hP,hc,fun g i e=>Nat.lt_of_lt_of_le (lt_of_block hS.2.2.1) (hA g i e)⟩⟩) ?_
  intro z V hz hS;obtain⟨⟨A,c⟩,rfl⟩:=Option.isSome_iff_exists.1 hz;obtain⟨hC,hG,hX,hR⟩:=hS;obtain⟨p1,p2,p3⟩:=hR A c rfl;have H3:=hid hC;have G3:=hid hG;have P3:=hid p1;have Q3:=hid (And.intro p2 p3);have c0:V.cell? ⟨w.heap.size,0,none⟩=some (.pointer (some ⟨cb,0,none⟩)):=cell_of_row _ _ 0 _ _ _ hX;have c1:V.cell? ⟨w.heap.size,1,none⟩=some (.int .i64 5):=cell_of_row _ _ 1 _ _ _ hX;have c2:V.cell? ⟨w.heap.size,2,none⟩=some (.int .i64 kind):=cell_of_row _ _ 2 _ _ _ hX;clear hC hG hX hR p1 p2 p3 hz;go_wp2_with fail;refine(PS.out _ H3.out).mono ?_;rintro e w4 ⟨rfl,hc,hg⟩;have H4:=hid hc;have G4:=hid (qo6d G3.out hg);have P4:=hid (P3.out.grown hg (fun g i e=>by have:=Q3.out.2 g i e;have:=CB.out;omega));clear hc hg c0 c1 c2;go_wp2;go_ret;exact⟨⟨A,c,rfl,Q3.out.1,P4.out,Q3.out.2⟩,H4.out,G4.out⟩
 ·have e1:x.props v kind=([],x):=by unfold Cs.props;rw[if_pos (.inr h5)]
  rw[e1];have h5':(v==5)=false:=beq_eq_false_iff_ne.2 h5;have h5n:(v != 5)=true:=by rw[show(v != 5)=!(v==5) from rfl,h5'];rfl
  unfold rdS;clear h5 h5' h h0 e1;go_in;go_wp2;go_ret;exact⟨⟨none,0,rfl,Nat.zero_le _,fun e=>absurd rfl e,fun g i e=>by cases e⟩,H0.out,G0.out⟩
end
theorem qzi2:∀n:Nat,n<256->(bits .andNot .i64 (n:Int) 3 != 0)=decide (3<n)/\(bits .andNot .i64 (n:Int) 63 != 0)=decide (63<n)/\bits .and .i64 (n:Int) 3=((n%4:Nat):Int)/\(bits .and .i64 (n:Int) 4 != 0)=(n / 4%2==1)/\(bits .and .i64 (n:Int) 8 != 0)=(n / 8%2==1)/\
 bits .and .i64 (n:Int) 48=((16*(n / 16%4):Nat):Int):=by decide+kernel
theorem q4vu(x:Cs):(x.num 1).1<256:=by
 unfold Cs.num
 have:=qn9h (x.take 1).1
 have hl:(x.take 1).1.length<=1:=by
  unfold Cs.take;split
  ·simp
  ·split
   ·simp
   ·simp;omega
 have:256^(x.take 1).1.length<=256^1:=Nat.pow_le_pow_right (by decide) hl
 omega
def fiZ:Array Value:=#[.string ⟨#[]⟩,.int .i64 0,.bool false,.bool false,.int .i64 0]
structure RoS(w:World)(cb:Nat)(v kind:Int)(s:ByteArray)(y:Cs)(W:World):Prop where
 lt:cb<w.heap.size
 g:w.grownBy W (some cb)
 bx:W.heap[w.heap.size]?=some (.cells #[.pointer (some ⟨cb,0,none⟩),.int .i64 v,.int .i64 kind] 147 (0,0))
 rs:W.heap[w.heap.size+1]?=some (.cells fiZ 67 (0,0))
 cs:CsAt W cb s y
section
variable{w W W':World}{cb:Nat}{s:ByteArray}{x y z:Cs}{v kind:Int}
theorem RoS.made(h:CsAt w cb s x):RoS w cb v kind s x ((w.alloc (.cells #[.pointer (some ⟨cb,0,none⟩),.int .i64 v,.int .i64 kind] 147)).alloc (.cells fiZ 67)):=
 ⟨h.lt,qo6d (World.grownBy_alloc _ _ _) (World.grownBy_alloc _ _ _),heap_alloc2_old _ _ _,heap_alloc2_new _ _ _,(h.alloc _).alloc _⟩
theorem RoS.call(h:RoS w cb v kind s y W)(hc:CsAt W' cb s z)(hg:W.grownBy W' (some cb)):RoS w cb v kind s z W':=
 ⟨h.lt,qo6d h.g hg,(hg.block _ (lt_of_block h.bx) (fun e=>by have:=Option.some.inj e;have:=h.lt;omega)).trans h.bx,(hg.block _ (lt_of_block h.rs) (fun e=>by have:=Option.some.inj e;have:=h.lt;omega)).trans h.rs,hc⟩
theorem RoS.below(h:RoS w cb v kind s y W)(hb:Below W.heap.size W W'):RoS w cb v kind s y W':=
 ⟨h.lt,qo6d h.g (q9cp hb _),(hb.block _ (lt_of_block h.bx)).trans h.bx,(hb.block _ (lt_of_block h.rs)).trans h.rs,h.cs.below hb⟩
theorem RoS.cell(h:RoS w cb v kind s y W)(j:Nat):W.cell? ⟨w.heap.size,j,none⟩=(#[Value.pointer (some ⟨cb,0,none⟩),.int .i64 v,.int .i64 kind]:Array Value)[j]? := cell_of_row _ _ j _ _ _ h.bx
theorem qla3(hm:s.size<=9223372036854775807)(h:CsAt w cb s x) :
 Calls prog 233 #[rdS cb v kind] w fun e w'=>e=.returned (.agg (fiC (q7vq [] (x.num 1).1)))/\CsAt w' cb s (if 63<(x.num 1).1\/(v=4/\3<(x.num 1).1) then(x.num 1).2.fail 7 else(x.num 1).2)/\w.grownBy w' (some cb):=by
 have G0:=hid (World.grownBy_alloc w (.cells #[.pointer (some ⟨cb,0,none⟩),.int .i64 v,.int .i64 kind] 147) (some cb));have h0:=h.alloc (.cells #[.pointer (some ⟨cb,0,none⟩),.int .i64 v,.int .i64 kind] 147);have NM:=fun W (h:CsAt W cb s x)=>q8yf 1 (by decide) hm h;have hlt:=q4vu x;generalize x.num 1=z at *;obtain⟨n,y⟩:=z;simp only at NM hlt ⊢;have BI:=hid (qqd6 v);have FL:=hid (fun W (h:CsAt W cb s y)=>qazj 7 h);obtain⟨b3,b63,b2,b4,b8,b48⟩:=qzi2 n hlt;have hbad:(63<n\/(v=4/\3<n))↔(bits .andNot .i64 (n:Int) (qyb2 v:Int) != 0)=true:=by
  unfold qyb2;by_cases h4:v=4
  ·rw[if_pos h4];show _↔(bits .andNot .i64 (n:Int) 3 != 0)=true;rw[b3,decide_eq_true_eq];omega
  ·rw[if_neg h4];show _↔(bits .andNot .i64 (n:Int) 63 != 0)=true;rw[b63,decide_eq_true_eq];omega
 have R0:=hid (RoS.made (v:=v) (kind:=kind) h);unfold fiZ at R0;replace NM:=hid NM;have hn:(n:Int)<65536:=by omega
 have K0:∀y W,RoS w cb v kind s y W->W.cell? ⟨w.heap.size,0,none⟩=some (.pointer (some ⟨cb,0,none⟩)):=fun y W h=>h.cell 0;have K1:∀y W,RoS w cb v kind s y W->W.cell? ⟨w.heap.size,1,none⟩=some (.int .i64 v):=fun y W h=>h.cell 1;have HB:=hid (show ∃(q t r:Int) (a b:Bool),bits .and .i64 (n:Int) 3=q/\bits .and .i64 (n:Int) 48=t/\wrap64 q=q/\wrap64 (t.tdiv 16)=r/\(bits .and .i64 (n:Int) 4 != 0)=a/\(bits .and .i64 (n:Int) 8 != 0)=b/\fiC (q7vq [] n)=#[.string ⟨#[]⟩,.int .i64 q,.bool a,.bool b,.int .i64 r] from by
  refine⟨_,_,((n / 16%4:Nat):Int),_,_,b2,b48,?_,?_,b4,b8,rfl⟩
  ·have:((n%4:Nat):Int)<4:=by omega
   generalize n%4=m at *;unfold wrap64;omega
  ·have:((n / 16%4:Nat):Int)<4:=by omega
   generalize n / 16%4=m at *;have e:((16*m:Nat):Int).tdiv 16=(m:Int):=by rw[Int.tdiv_eq_ediv_of_nonneg (by omega)];omega
   rw[e];unfold wrap64;omega)
 replace K0:=hid K0;replace K1:=hid K1;unfold rdS;clear h h0 b3 b63 G0 b2 b4 b8 b48;by_cases hd:63<n\/(v=4/\3<n)
 ·rw[if_pos hd];have g1:=hbad.1 hd;clear hbad hd;have g2:(bits .andNot .i64 (n:Int) (qyb2 v:Int)==0)=false:=by rw[bne,Bool.not_eq_true'] at g1;exact g1
  generalize qyb2 v=M at *;go_in;go_wp2_with fail;refine(NM.out _ R0.out.cs).mono ?_;rintro e w2 ⟨rfl,hc,hg⟩;have R2:=hid (R0.out.call hc hg);have c0:=K0.out _ _ R2.out;have c1:=K1.out _ _ R2.out;clear hc hg R0;go_wp2_with fail;refine(BI.out _).mono ?_;rintro e w3 ⟨rfl,rfl⟩;go_wp2_with fail;refine(FL.out _ R2.out.cs).mono ?_;rintro e w4 ⟨rfl,hc,hg⟩;have R4:=hid (R2.out.call hc hg);obtain⟨q,t,r,a,b,b2,b48,e1,e2,b4,b8,hD⟩:=HB.out;have HD:=hid hD;have H5:=hid (show #[Value.string ⟨#[]⟩,.int .i64 q,.bool a,.bool b,.int .i64 r].size=5 from rfl);have HO:=hid (show #[Value.string ⟨#[]⟩,.int .i64 q,.bool a,.bool b,.int .i64 r].all (·.oneCell')=true from by simp[Value.oneCell']);have HR:=hid R4.out.rs;clear hc hg c0 c1 g1 g2 hn HB hD;go_wp2_with (refine wpList_store_row rfl _ _ _ rfl (w.heap.size+1) #[.string ⟨#[]⟩,.int .i64 q,.bool a,.bool b,.int .i64 r] rfl rfl 67 _ HR.out (by rw[H5.out];exact qhg6) (by rw[H5.out];rfl) HO.out ?_);refine q7wi rfl rfl rfl underlying67 rfl (by rw[H5.out];exact qhg6) (setRow_heap _ _ _ _ _ _ HR.out) ⟨by rw[HD.out],?_,?_⟩
  ·exact R4.out.cs.of_block (setRow_other _ _ _ _ (by have:=R4.out.lt;omega))
  ·exact qacl R4.out.g (by omega) _
 ·rw[if_neg hd];have g1:(bits .andNot .i64 (n:Int) (qyb2 v:Int) != 0)=false:=by rw[Bool.eq_false_iff];exact fun e=>hd (hbad.2 e)
  clear hbad hd;have g2:(bits .andNot .i64 (n:Int) (qyb2 v:Int)==0)=true:=by rw[bne,Bool.not_eq_false'] at g1;exact g1
  generalize qyb2 v=M at *;go_in;go_wp2_with fail;refine(NM.out _ R0.out.cs).mono ?_;rintro e w2 ⟨rfl,hc,hg⟩;have R2:=hid (R0.out.call hc hg);have c0:=K0.out _ _ R2.out;have c1:=K1.out _ _ R2.out;clear hc hg R0;go_wp2_with fail;refine(BI.out _).mono ?_;rintro e w3 ⟨rfl,rfl⟩;obtain⟨q,t,r,a,b,b2,b48,e1,e2,b4,b8,hD⟩:=HB.out;have HD:=hid hD;have H5:=hid (show #[Value.string ⟨#[]⟩,.int .i64 q,.bool a,.bool b,.int .i64 r].size=5 from rfl);have HO:=hid (show #[Value.string ⟨#[]⟩,.int .i64 q,.bool a,.bool b,.int .i64 r].all (·.oneCell')=true from by simp[Value.oneCell']);have HR:=hid R2.out.rs;clear c0 c1 hn HB hD;go_wp2_with (refine wpList_store_row rfl _ _ _ rfl (w.heap.size+1) #[.string ⟨#[]⟩,.int .i64 q,.bool a,.bool b,.int .i64 r] rfl rfl 67 _ HR.out (by rw[H5.out];exact qhg6) (by rw[H5.out];rfl) HO.out ?_);refine q7wi rfl rfl rfl underlying67 rfl (by rw[H5.out];exact qhg6) (setRow_heap _ _ _ _ _ _ HR.out) ⟨by rw[HD.out],?_,?_⟩
  ·exact R2.out.cs.of_block (setRow_other _ _ _ _ (by have:=R2.out.lt;omega))
  ·exact qacl R2.out.g (by omega) _
end
theorem qmxu:rdT []=([],0,3):=by decide
theorem q5y0{w W:World}{B j:Nat}{u:Value}{r:Option Nat}(h:w.grownBy W r)(hB:w.heap.size<=B):w.grownBy (W.setCell ⟨B,j,none⟩ u) r:=
 ⟨h.os,h.tape,h.output,by have:=h.size;simpa [World.setCell] using this,fun k hk hne=>(heap_setCell_other W ⟨B,j,none⟩ k u (by show k≠B;omega)).trans (h.block k hk hne)⟩
section
variable{w W W':World}{cb:Nat}{s:ByteArray}{x y z:Cs}{v kind:Int}
theorem qruy(hk:kind=8\/kind=10)(hm:s.size<=9223372036854775807)(h:CsAt w cb s x) :
 Calls prog 204 #[rdS cb v kind] w fun e w'=>e=.returned (.agg (fiC (x.filt v kind).1))/\CsAt w' cb s (x.filt v kind).2/\w.grownBy w' (some cb):=by
 have AH:=hid (fun W (h:CsAt W cb s x)=>qnsg (v:=v) (kind:=kind) hm h);have hle:x.ahead.length<=x.r.length:=by unfold Cs.ahead;split;exact Nat.le_refl _;exact Nat.zero_le _
 have RD:=fun W=>q2z4 (bs x.ahead) W (by rw[q5zk];have:=h.len;omega);rw[qkd1] at RD;have hk2:(rdT x.ahead).2.1<=x.r.length:=Nat.le_trans (qslt x.ahead).1 hle;have e1:x.text=((rdT x.ahead).1,if x.e=0 then⟨x.r.drop (rdT x.ahead).2.1,(rdT x.ahead).2.2⟩ else x):=by
  unfold Cs.text Cs.ahead;by_cases he:x.e=0
  ·simp[he]
  ·simp[he,qmxu]
 unfold Cs.filt;rw[e1];generalize rdT x.ahead=z at *;obtain⟨t,k,f⟩:=z;have PS:=fun W (h:CsAt W cb s x)=>qo6b (v:=v) (kind:=kind) k f hk2 hm h;generalize (if x.e=0 then(⟨x.r.drop k,f⟩:Cs) else x)=y at *;have OP:=fun W (h:CsAt W cb s y)=>qla3 (v:=v) (kind:=kind) hm h;have R0:=hid (RoS.made (v:=v) (kind:=kind) h);generalize bs x.ahead=T at *;replace RD:=hid RD;replace PS:=hid PS;replace OP:=hid OP;have K0:∀y W,RoS w cb v kind s y W->W.cell? ⟨w.heap.size,0,none⟩=some (.pointer (some ⟨cb,0,none⟩)):=fun y W h=>h.cell 0;have K1:∀y W,RoS w cb v kind s y W->W.cell? ⟨w.heap.size,1,none⟩=some (.int .i64 v):=fun y W h=>h.cell 1;have K2:∀y W,RoS w cb v kind s y W->W.cell? ⟨w.heap.size,2,none⟩=some (.int .i64 kind):=fun y W h=>h.cell 2;replace K0:=hid K0;replace K1:=hid K1;replace K2:=hid K2;have HZ:=hid (show fiZ.size=5 from rfl);simp only;unfold rdS at *;unfold ok3 at RD;unfold fiZ at R0;clear h hle hk2 e1;rcases hk with rfl|rfl
 ·rw[if_neg (by decide)];generalize (y.num 1).1=n at *;generalize (y.num 1).2=u at *;simp only;generalize (if 63<n\/(v=4/\3<n) then u.fail 7 else u)=u2 at *;go_in;go_wp2_with fail;refine(AH.out _ R0.out.cs).mono ?_;rintro e w2 ⟨rfl,hb⟩;have R2:=hid (R0.out.below hb);clear hb R0;go_wp2_with fail;refine(RD.out _).mono ?_;rintro e w3 ⟨rfl,hb⟩;have R3:=hid (R2.out.below hb);have c0:=K0.out _ _ R3.out;have c1:=K1.out _ _ R3.out;have c2:=K2.out _ _ R3.out;clear hb R2;go_wp2_with fail;refine(PS.out _ R3.out.cs).mono ?_;rintro e w4 ⟨rfl,hc,hg⟩;have R4:=hid (R3.out.call hc hg);have R5:=hid (R4.out.below ((Below.refl _ _).alloc (Nat.le_refl _) (.cells #[.string ⟨#[]⟩,.int .i64 0,.bool false,.bool false,.int .i64 0] 67)));have F5:=hid (heap_alloc_new w4 (.cells #[.string ⟨#[]⟩,.int .i64 0,.bool false,.bool false,.int .i64 0] 67));clear hc hg R3 c0 c1 c2;have c0:=K0.out _ _ R5.out;have c1:=K1.out _ _ R5.out;have c2:=K2.out _ _ R5.out;go_wp2_with fail;refine(OP.out _ R5.out.cs).mono ?_;rintro e w6 ⟨rfl,hc,hg⟩;have R6:=hid (R5.out.call hc hg);have hNE:w4.heap.size≠cb:=by have h1:=R4.out.lt;have h2:=R4.out.g.size;omega
  have F6:=hid ((hg.block w4.heap.size (by simp) (fun e=>hNE (Option.some.inj e))).trans F5.out);have HB:=hid (show w.heap.size+1<w4.heap.size from lt_of_block R4.out.rs);clear hc hg c0 c1 c2 F5 R5 R4 hNE;generalize w4.heap.size=b at *;have D1:=hid (qxzo (q7vq [] n));have D2:=hid (qx37 (q7vq [] n));have D3:=hid (show(fiC (q7vq [] n)).setIfInBounds 0 (.string (bs t))=fiC (q7vq t n) from rfl);have D4:=hid (qxzo (q7vq t n));have D5:=hid (qx37 (q7vq t n));have H5:=hid (show #[Value.string ⟨#[]⟩,.int .i64 0,.bool false,.bool false,.int .i64 0].size=5 from rfl);have F7:=hid (setRow_heap _ _ _ (fiC (q7vq [] n)) _ _ F6.out);have f7:(w6.setRow b (fiC (q7vq [] n))).frozen? ⟨b,0,none⟩=false:=frozen_of_row _ _ _ _ _ F7.out;have k7:(w6.setRow b (fiC (q7vq [] n))).cell? ⟨b,0,none⟩=some (.string ⟨#[]⟩):=cell_of_row _ _ 0 _ _ _ F7.out;have F8:=hid (qv6p (j:=0) (u := .string (bs t)) F7.out D3.out);generalize fiC (q7vq [] n)=C1 at *;obtain⟨C2,hC2⟩:∃C,fiC (q7vq t n)=C:=⟨_,rfl⟩
  rw[hC2] at D3 D4 D5 F8;have HC2:=hid hC2;clear hC2;have G8:=hid (show((w6.setRow b C1).setCell ⟨b,0,none⟩ (.string (bs t))).heap[w.heap.size+1]?=some (.cells #[.string ⟨#[]⟩,.int .i64 0,.bool false,.bool false,.int .i64 0] 67 (0,0)) from
   (heap_setCell_other _ ⟨b,0,none⟩ _ _ (by show w.heap.size+1≠b;have:=HB.out;omega)).trans ((setRow_other _ _ _ _ (by have:=HB.out;omega)).trans R6.out.rs))
  go_wp2_with (first
   |(refine wpList_store_row rfl _ _ _ rfl b C1 rfl rfl 67 _ F6.out (by rw[D1.out];exact qhg6) (by rw[H5.out,D1.out]) D2.out ?_)
   |(refine wpList_load_row rfl _ _ rfl b rfl 67 C2 (0,0) _ F8.out underlying67 rfl (by rw[D4.out];exact qhg6) ?_)
   |(refine wpList_store_row rfl _ _ _ rfl (w.heap.size+1) C2 rfl rfl 67 _ G8.out (by rw[D4.out];exact qhg6) (by rw[H5.out,D4.out]) D5.out ?_))
  have LT:=R6.out.lt;refine q7wi rfl rfl rfl underlying67 rfl (by rw[D4.out];exact qhg6) (setRow_heap _ _ _ _ _ _ G8.out) ⟨by rw[HC2.out],?_,?_⟩
  ·exact R6.out.cs.of_block ((setRow_other _ _ _ _ (by omega)).trans ((heap_setCell_other _ ⟨b,0,none⟩ _ _ (by show cb≠b;have:=HB.out;omega)).trans (setRow_other _ _ _ _ (by have:=HB.out;omega))))
  ·exact qacl (q5y0 (qacl R6.out.g (by have:=HB.out;omega) _) (by have:=HB.out;omega)) (by omega) _
 ·rw[if_pos rfl];simp only;clear OP;go_in;go_wp2_with fail;refine(AH.out _ R0.out.cs).mono ?_;rintro e w2 ⟨rfl,hb⟩;have R2:=hid (R0.out.below hb);clear hb R0;go_wp2_with fail;refine(RD.out _).mono ?_;rintro e w3 ⟨rfl,hb⟩;have R3:=hid (R2.out.below hb);have c0:=K0.out _ _ R3.out;have c1:=K1.out _ _ R3.out;have c2:=K2.out _ _ R3.out;clear hb R2;go_wp2_with fail;refine(PS.out _ R3.out.cs).mono ?_;rintro e w4 ⟨rfl,hc,hg⟩;have R4:=hid (R3.out.call hc hg);have R5:=hid (R4.out.below ((Below.refl _ _).alloc (Nat.le_refl _) (.cells #[.string ⟨#[]⟩,.int .i64 0,.bool false,.bool false,.int .i64 0] 67)));have F6:=hid (heap_alloc_new w4 (.cells #[.string ⟨#[]⟩,.int .i64 0,.bool false,.bool false,.int .i64 0] 67));clear hc hg R3 c0 c1 c2;have c2:=K2.out _ _ R5.out;have H5:=hid (show #[Value.string ⟨#[]⟩,.int .i64 0,.bool false,.bool false,.int .i64 0].size=5 from rfl);have D4:=hid (show #[Value.string (bs t),.int .i64 0,.bool false,.bool false,.int .i64 0].size=5 from rfl);have D5:=hid (show #[Value.string (bs t),.int .i64 0,.bool false,.bool false,.int .i64 0].all (·.oneCell')=true from by simp[Value.oneCell']);have R8:=hid (R4.out.below ((Below.refl _ _).alloc (Nat.le_refl _) (.cells #[.string (bs t),.int .i64 0,.bool false,.bool false,.int .i64 0] 67)));have G8:=hid R8.out.rs;have HC2:=hid (show fiC ⟨t,0,false,false,0⟩=#[Value.string (bs t),.int .i64 0,.bool false,.bool false,.int .i64 0] from rfl);clear R4 R5;go_wp2_with (first
   |(refine wpList_load_row rfl _ _ rfl w4.heap.size rfl 67 #[.string (bs t),.int .i64 0,.bool false,.bool false,.int .i64 0] (0,0) _ (heap_alloc_new w4 _) underlying67 rfl (by rw[D4.out];exact qhg6) ?_)
   |(refine wpList_store_row rfl _ _ _ rfl (w.heap.size+1) #[.string (bs t),.int .i64 0,.bool false,.bool false,.int .i64 0] rfl rfl 67 _ G8.out (by rw[D4.out];exact qhg6) (by rw[D4.out];exact H5.out) D5.out ?_))
  have LT:=R8.out.lt;refine q7wi rfl rfl rfl underlying67 rfl (by rw[D4.out];exact qhg6) (setRow_heap _ _ _ _ _ _ G8.out) ⟨by rw[HC2.out],?_,?_⟩
  ·exact R8.out.cs.of_block (setRow_other _ _ _ _ (by omega))
  ·exact qacl R8.out.g (by omega) _
end
end Go.Proofs.YtombgnfedafkjaaGreatDoor
