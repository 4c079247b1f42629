/- The contract of prop.Read, as a law's walk wants it. Condition: the bytes are no more than an int says. -/
import Derived.Test.YtlhkgidoaggodaaGreatDoorK28
import Derived.Test.YtlhkgidoaggodaaGreatDoorK17
import Derived.Test.YtlhkgidoaggodaaGreatDoorK06
set_option maxRecDepth 100000
set_option maxHeartbeats 2000000
namespace Go.Proofs.YtlhkgidoaggodaaGreatDoor
open Lib(hid)
open Proofs.Tryz
open Go.RowKit
theorem q188(kind:Int)(s:ByteArray)(L:List Pr)(k F:Nat)(hk0:-9223372036854775808<=kind)(hk1:kind<=9223372036854775807)(hm:s.size<=9223372036854775807)(hq:qflw kind s.data.toList=(L,k,F))(W:World) :
 Calls prog 143 #[.int .i64 kind,.string s] W fun e W'=>Below W.heap.size W W'/\∃A c,e=.returned (.tuple #[.slice A L.length c,.int .i64 (k:Nat),.int .i64 (F:Nat)])/\L.length<=c/\PL W' A L/\(∀p∈L,PrOk p)/\L.length<=1000/\∀g i,A=some ⟨g,i,none⟩->W.heap.size<=g:=by
 have:=q3kx kind s W hk0 hk1 hm
 rw[hq] at this;refine this.mono fun e W' ⟨hb,ok,hl,v,he,ho⟩=>⟨hb,?_⟩
 obtain⟨A,c,rfl,hc,hP,hg⟩:=PL.owned ho rfl;exact⟨A,c,he,hc,hP,ok,hl,hg⟩
end Go.Proofs.YtlhkgidoaggodaaGreatDoor
namespace Go.Proofs.YtlhkgidoaggodaaGreatDoor
open Lib(hid)
open Proofs.Tryz
theorem qoa7{kind:Int}{p:Pr}(h:qr4y kind p=0):PrOk p/\p.text.length<=65535/\p.value.length<=65535:=by
 obtain⟨hm,h4,h5⟩:=qo1o h;obtain⟨_,h1,h2,_⟩:=qttn h;obtain⟨r1,r2⟩:=qilb hm;obtain⟨f0,f7,f1,f2,f3,f4,_⟩:=qznl hm;have hn:p.n<4294967296:=by
  by_cases hs:qwgc p.id<=4
  ·have h6:=(h4 hs).2.2.2;have hs4:qwgc p.id=1\/qwgc p.id=2\/qwgc p.id=3\/qwgc p.id=4:=by omega
   rcases hs4 with e|e|e|e
   ·have:=f1 e;omega
   ·have:=f2 e;omega
   ·have:=f3 e;omega
   ·have:=f4 e;omega
  ·have:=(h5 (by omega)).1;omega
 exact⟨⟨by omega,by omega,hn,by omega,by omega⟩,h1,h2⟩
theorem qdz1(kind:Int)(s:List UInt8):(∀p∈(qflw kind s).1,PrOk p/\p.text.length<=65535/\p.value.length<=65535)/\(qflw kind s).1.length<=1000:=by
 by_cases h:(qflw kind s).2.2=0
 ·have hv:=(qugf (show qflw kind s=((qflw kind s).1,(qflw kind s).2.1,0) by rw[<-h])).1;obtain⟨h1,h2,_⟩:=(qgl5 _ _).1 hv;exact⟨fun p hp=>qoa7 (h2.1 p hp),h1⟩
 ·rw[qjfk h];exact⟨fun p hp=>(nomatch hp),Nat.zero_le _⟩
theorem q5pm(x:Cs)(v kind:Int):(∀p∈(x.props v kind).1,PrOk p/\p.text.length<=65535/\p.value.length<=65535)/\(x.props v kind).1.length<=1000:=by
 unfold Cs.props;split
 ·exact⟨fun p hp=>(nomatch hp),Nat.zero_le _⟩
 ·exact qdz1 _ _
end Go.Proofs.YtlhkgidoaggodaaGreatDoor
namespace Go.Proofs.YtlhkgidoaggodaaGreatDoor
open Lib(hid)
open Proofs.Tryz
open Go.RowKit
section
variable{w W W':World}{cb:Nat}{s:ByteArray}{x:Cs}
def Cs.ahead(x:Cs):List UInt8:=if x.e=0 then x.r else []
theorem qitj(hm:s.size<=9223372036854775807)(h:CsAt w cb s x) :
 Calls prog 231 #[.pointer (some ⟨cb,0,none⟩),.int .i64 (x.r.length:Nat)] w fun e w'=>e=.returned (.string (bs x.ahead))/\∃n,w'=w.drewN n:=by
 obtain⟨i,hi,hc,hr⟩:=h;have hl:x.r.length=s.size-i:=by rw[<-hr,List.length_drop,<-q4ad]
 unfold Cs.ahead;by_cases he:x.e=0
 ·rw[if_pos he];rw[he] at hc;refine(q64u x.r.length hc (by omega) hm).mono fun e w' ⟨h1,h2⟩=>⟨?_,h2⟩
  rw[h1,q31q,hr,List.take_length]
 ·rw[if_neg he];exact(qtyr (x.r.length:Int) hc (by simp;omega)).mono fun e w' ⟨h1,h2⟩=>⟨h1,h2⟩
end
def rdrV(cb:Nat)(v:Int):Value := .agg #[.pointer (some ⟨cb,0,none⟩),.int .i64 v]
section
variable{w W W':World}{cb:Nat}{s:ByteArray}{x:Cs}{v:Int}
theorem qkvc(w:World)(cb:Nat)(v:Int):(w.alloc (.cells #[.pointer (some ⟨cb,0,none⟩),.int .i64 v] 128)).heap[w.heap.size]?=some (.cells #[.pointer (some ⟨cb,0,none⟩),.int .i64 v] 128 (0,0)):=heap_alloc_new w _
theorem qr75(b:Bool)(f:Nat)(h:CsAt w cb s x) :
 Calls prog 92 #[rdrV cb v,.bool b,.int .i64 (f:Nat)] w fun e w'=>e=.returned (.tuple #[])/\CsAt w' cb s (if b then x else x.fail f)/\w.grownBy w' (some cb):=by
 have G0:=hid (World.grownBy_alloc w (.cells #[.pointer (some ⟨cb,0,none⟩),.int .i64 v] 128) (some cb));have h0:=h.alloc (.cells #[.pointer (some ⟨cb,0,none⟩),.int .i64 v] 128);have FL:=hid (qazj f h0);have H0:=hid h0;unfold rdrV;clear h h0;cases b with
 |true=>
  go_in;go_wp2_with fail
  go_end0
  exact⟨rfl,H0.out,G0.out⟩
 |false=>
  go_in;go_wp2_with fail;refine(FL.out).mono ?_;rintro e w2 ⟨rfl,hc,hg⟩;have HC:=hid hc;have HG:=hid (qo6d G0.out hg);clear hc hg;go_wp2_with fail
  go_end0
  exact⟨rfl,HC.out,HG.out⟩
theorem q0ph(x:Cs)(n:Nat)(hn:n<=2):(x.num n).1<65536:=by
 unfold Cs.num
 have:=qn9h (x.take n).1
 have hl:(x.take n).1.length<=2:=by
  unfold Cs.take;split
  ·simp
  ·split
   ·simp
   ·simp;omega
 have:256^(x.take n).1.length<=256^2:=Nat.pow_le_pow_right (by decide) hl
 omega
theorem qevs(hm:s.size<=9223372036854775807)(h:CsAt w cb s x) :
 Calls prog 168 #[rdrV cb v] w fun e w'=>e=.returned (.int .i64 ((x.num 1).1:Nat))/\CsAt w' cb s (x.num 1).2/\w.grownBy w' (some cb):=by
 have G0:=hid (World.grownBy_alloc w (.cells #[.pointer (some ⟨cb,0,none⟩),.int .i64 v] 128) (some cb));have h0:=h.alloc (.cells #[.pointer (some ⟨cb,0,none⟩),.int .i64 v] 128);have NM:=q8yf 1 (by decide) hm h0;have hlt:=q0ph x 1 (by decide);generalize x.num 1=z at *;obtain⟨z1,z2⟩:=z;have NM:=hid NM;have hz0:(0:Int)<=z1:=by omega
 have hz:(z1:Int)<65536:=by omega
 unfold rdrV;clear h h0 hlt;go_in;go_wp2_with fail;refine(NM.out).mono ?_;rintro e w2 ⟨rfl,hc,hg⟩;have HC:=hid hc;have HG:=hid (qo6d G0.out hg);clear hc hg;go_wp2;go_ret;exact⟨rfl,HC.out,HG.out⟩
theorem q9lb(hm:s.size<=9223372036854775807)(h:CsAt w cb s x) :
 Calls prog 213 #[rdrV cb v] w fun e w'=>e=.returned (.string (bs x.ahead))/\Below w.heap.size w w':=by
 have B0:=hid (qybm (w:=w) (.cells #[.pointer (some ⟨cb,0,none⟩),.int .i64 v] 128));have h0:=h.alloc (.cells #[.pointer (some ⟨cb,0,none⟩),.int .i64 v] 128);have LF:=hid (fun n=>qjtm hm (h0.draws n));have PK:=hid (fun n=>qitj hm (h0.draws n));have DR:∀a b:Nat,((w.alloc (.cells #[.pointer (some ⟨cb,0,none⟩),.int .i64 v] 128)).drewN a).drewN b=(w.alloc (.cells #[.pointer (some ⟨cb,0,none⟩),.int .i64 v] 128)).drewN (a+b):=fun a b=>by simp
 have DR:=hid DR;unfold rdrV;clear h h0;go_in;go_wp2_with fail;go_quiet (first
  |(go_at_call 51;exact(LF.out _).mono fun _ _ h=>⟨h.1,qrso h.2⟩)
  |(go_at_call 231;exact(PK.out _).mono fun _ _ h=>⟨h.1,qrso h.2⟩))
 go_wp2;go_ret;exact⟨rfl,qnpu B0.out _⟩
theorem qa2g(k f:Nat)(hk:k<=x.r.length)(hm:s.size<=9223372036854775807)(h:CsAt w cb s x) :
 Calls prog 214 #[rdrV cb v,.int .i64 (k:Nat),.int .i64 (f:Nat)] w fun e w'=>e=.returned (.tuple #[])/\CsAt w' cb s (if x.e=0 then⟨x.r.drop k,f⟩ else x)/\w.grownBy w' (some cb):=by
 have G0:=hid (World.grownBy_alloc w (.cells #[.pointer (some ⟨cb,0,none⟩),.int .i64 v] 128) (some cb));have h0:=h.alloc (.cells #[.pointer (some ⟨cb,0,none⟩),.int .i64 v] 128);have TK:=hid (qgtr k hm h0);have e1:((x.take k).2.fail f)=if x.e=0 then⟨x.r.drop k,f⟩ else x:=by
  unfold Cs.take Cs.fail;by_cases he:x.e=0
  ·simp[he,show ¬x.r.length<k by omega]
  ·simp[he]
 rw[<-e1];have BX:=hid (qkvc w cb v);have hne:w.heap.size≠cb:=Nat.ne_of_gt h.lt;unfold rdrV;clear h h0 e1 hk;go_in;go_wp2_with fail;refine(TK.out).mono ?_;rintro e w2 ⟨rfl,hc,hg⟩;have hb2:=(hg.block w.heap.size (by simp) (fun e=>hne (Option.some.inj e))).trans BX.out;have c0:w2.cell? ⟨w.heap.size,0,none⟩=some (.pointer (some ⟨cb,0,none⟩)):=cell_of_row _ _ 0 _ _ _ hb2;have FL:=hid (qazj f hc);have HG:=hid (qo6d G0.out hg);clear hc hg hb2;go_wp2_with fail;refine(FL.out).mono ?_;rintro e w3 ⟨rfl,hc,hg⟩;have HC:=hid hc;have HG2:=hid (qo6d HG.out hg);clear hc hg c0;go_wp2_with fail
 go_end0
 exact⟨rfl,HC.out,HG2.out⟩
theorem qe36:rdB []=([],0,3):=by decide
theorem qg2y:rdT []=([],0,3):=by decide
theorem qgsz(hm:s.size<=9223372036854775807)(h:CsAt w cb s x) :
 Calls prog 216 #[rdrV cb v,.func (.func 142) #[] #[]] w fun e w'=>e=.returned (.string (bs x.text.1))/\CsAt w' cb s x.text.2/\w.grownBy w' (some cb):=by
 have G0:=hid (World.grownBy_alloc w (.cells #[.pointer (some ⟨cb,0,none⟩),.int .i64 v] 128) (some cb));have h0:=h.alloc (.cells #[.pointer (some ⟨cb,0,none⟩),.int .i64 v] 128);have AH:=hid (q9lb (v:=v) hm h0);have hle:x.ahead.length<=x.r.length:=by unfold Cs.ahead;split;exact Nat.le_refl _;exact Nat.zero_le _
 have RD:=fun W=>q2z4 (bs x.ahead) W (by rw[q5zk];have:=h.len;omega);rw[qkd1] at RD;have hk:=(qslt x.ahead).1;have hk2:(rdT x.ahead).2.1<=x.r.length:=Nat.le_trans hk hle;have e1:x.text=((rdT x.ahead).1,if x.e=0 then⟨x.r.drop (rdT x.ahead).2.1,(rdT x.ahead).2.2⟩ else x):=by
  unfold Cs.text Cs.ahead;by_cases he:x.e=0
  ·simp[he]
  ·simp[he,qg2y]
 rw[e1];generalize rdT x.ahead=z at *;obtain⟨t,k,f⟩:=z;have RD:=hid RD;have PS:=fun W (h:CsAt W cb s x)=>qa2g (v:=v) k f hk2 hm h;generalize (if x.e=0 then(⟨x.r.drop k,f⟩:Cs) else x)=y at *;have PS:=hid PS;have H0:=hid h0;have BX:=hid (qkvc w cb v);have hne:w.heap.size≠cb:=Nat.ne_of_gt h.lt;unfold rdrV at *;unfold ok3 at RD;clear h h0 hle hk hk2 e1;go_in;go_wp2_with fail;refine(AH.out).mono ?_;rintro e w2 ⟨rfl,hb⟩;have H2:=hid (H0.out.below hb);have G2:=hid (qo6d G0.out (q9cp hb (some cb)));have X2:=hid ((hb.block _ (lt_of_block BX.out)).trans BX.out);clear hb;go_wp2_with fail;refine(RD.out _).mono ?_;rintro e w3 ⟨rfl,hb⟩;have H3:=hid (H2.out.below hb);have G3:=hid (qo6d G2.out (q9cp hb (some cb)));have X3:=(hb.block _ (lt_of_block X2.out)).trans X2.out;have c0:w3.cell? ⟨w.heap.size,0,none⟩=some (.pointer (some ⟨cb,0,none⟩)):=cell_of_row _ _ 0 _ _ _ X3;have c1:w3.cell? ⟨w.heap.size,1,none⟩=some (.int .i64 v):=cell_of_row _ _ 1 _ _ _ X3;clear hb X3;go_wp2_with fail;refine(PS.out _ H3.out).mono ?_;rintro e w4 ⟨rfl,hc,hg⟩;have H4:=hid hc;have G4:=hid (qo6d G3.out hg);clear hc hg c0 c1;go_wp2;go_ret;exact⟨rfl,H4.out,G4.out⟩
theorem q444(hm:s.size<=9223372036854775807)(h:CsAt w cb s x) :
 Calls prog 216 #[rdrV cb v,.func (.func 184) #[] #[]] w fun e w'=>e=.returned (.string (bs x.bin.1))/\CsAt w' cb s x.bin.2/\w.grownBy w' (some cb):=by
 have G0:=hid (World.grownBy_alloc w (.cells #[.pointer (some ⟨cb,0,none⟩),.int .i64 v] 128) (some cb));have h0:=h.alloc (.cells #[.pointer (some ⟨cb,0,none⟩),.int .i64 v] 128);have AH:=hid (q9lb (v:=v) hm h0);have hle:x.ahead.length<=x.r.length:=by unfold Cs.ahead;split;exact Nat.le_refl _;exact Nat.zero_le _
 have RD:=fun W=>qgvs (bs x.ahead) W (by rw[q5zk];have:=h.len;omega);rw[qkd1] at RD;have hk:=(q3gm x.ahead).1;have hk2:(rdB x.ahead).2.1<=x.r.length:=Nat.le_trans hk hle;have e1:x.bin=((rdB x.ahead).1,if x.e=0 then⟨x.r.drop (rdB x.ahead).2.1,(rdB x.ahead).2.2⟩ else x):=by
  unfold Cs.bin Cs.ahead;by_cases he:x.e=0
  ·simp[he]
  ·simp[he,qe36]
 rw[e1];generalize rdB x.ahead=z at *;obtain⟨t,k,f⟩:=z;have RD:=hid RD;have PS:=fun W (h:CsAt W cb s x)=>qa2g (v:=v) k f hk2 hm h;generalize (if x.e=0 then(⟨x.r.drop k,f⟩:Cs) else x)=y at *;have PS:=hid PS;have H0:=hid h0;have BX:=hid (qkvc w cb v);have hne:w.heap.size≠cb:=Nat.ne_of_gt h.lt;unfold rdrV at *;unfold ok3 at RD;clear h h0 hle hk hk2 e1;go_in;go_wp2_with fail;refine(AH.out).mono ?_;rintro e w2 ⟨rfl,hb⟩;have H2:=hid (H0.out.below hb);have G2:=hid (qo6d G0.out (q9cp hb (some cb)));have X2:=hid ((hb.block _ (lt_of_block BX.out)).trans BX.out);clear hb;go_wp2_with fail;refine(RD.out _).mono ?_;rintro e w3 ⟨rfl,hb⟩;have H3:=hid (H2.out.below hb);have G3:=hid (qo6d G2.out (q9cp hb (some cb)));have X3:=(hb.block _ (lt_of_block X2.out)).trans X2.out;have c0:w3.cell? ⟨w.heap.size,0,none⟩=some (.pointer (some ⟨cb,0,none⟩)):=cell_of_row _ _ 0 _ _ _ X3;have c1:w3.cell? ⟨w.heap.size,1,none⟩=some (.int .i64 v):=cell_of_row _ _ 1 _ _ _ X3;clear hb X3;go_wp2_with fail;refine(PS.out _ H3.out).mono ?_;rintro e w4 ⟨rfl,hc,hg⟩;have H4:=hid hc;have G4:=hid (qo6d G3.out hg);clear hc hg c0 c1;go_wp2;go_ret;exact⟨rfl,H4.out,G4.out⟩
theorem qt5a(hm:s.size<=9223372036854775807)(h:CsAt w cb s x) :
 Calls prog 171 #[rdrV cb v] w fun e w'=>e=.returned (.string (bs x.text.1))/\CsAt w' cb s x.text.2/\w.grownBy w' (some cb):=by
 have G0:=hid (World.grownBy_alloc w (.cells #[.pointer (some ⟨cb,0,none⟩),.int .i64 v] 128) (some cb));have h0:=h.alloc (.cells #[.pointer (some ⟨cb,0,none⟩),.int .i64 v] 128);have PI:=hid (qgsz (v:=v) hm h0);unfold rdrV at *;clear h h0;go_in;go_wp2_with fail;refine(PI.out).mono ?_;rintro e w2 ⟨rfl,hc,hg⟩;have H2:=hid hc;have G2:=hid (qo6d G0.out hg);clear hc hg;go_wp2;go_ret;exact⟨rfl,H2.out,G2.out⟩
theorem q932(hm:s.size<=9223372036854775807)(h:CsAt w cb s x) :
 Calls prog 172 #[rdrV cb v] w fun e w'=>e=.returned (.string (bs x.bin.1))/\CsAt w' cb s x.bin.2/\w.grownBy w' (some cb):=by
 have G0:=hid (World.grownBy_alloc w (.cells #[.pointer (some ⟨cb,0,none⟩),.int .i64 v] 128) (some cb));have h0:=h.alloc (.cells #[.pointer (some ⟨cb,0,none⟩),.int .i64 v] 128);have PI:=hid (q444 (v:=v) hm h0);unfold rdrV at *;clear h h0;go_in;go_wp2_with fail;refine(PI.out).mono ?_;rintro e w2 ⟨rfl,hc,hg⟩;have H2:=hid hc;have G2:=hid (qo6d G0.out hg);clear hc hg;go_wp2;go_ret;exact⟨rfl,H2.out,G2.out⟩
end
section
variable{w W W':World}{cb:Nat}{s:ByteArray}{x:Cs}{v:Int}
theorem q5sz(kind:Int)(hk0:-9223372036854775808<=kind)(hk1:kind<=9223372036854775807)(hm:s.size<=9223372036854775807)(h:CsAt w cb s x) :
 Calls prog 169 #[rdrV cb v,.int .i64 kind] w fun e w'=>(∃A c,e=.returned (.slice A (x.props v kind).1.length c)/\(x.props v kind).1.length<=c/\PL w' A (x.props v kind).1/\∀g i,A=some ⟨g,i,none⟩->w.heap.size<g)/\(∀p∈(x.props v kind).1,PrOk p)/\(x.props v kind).1.length<=1000/\CsAt w' cb s (x.props v kind).2/\w.grownBy w' (some cb):=by
 have G0:=hid (World.grownBy_alloc w (.cells #[.pointer (some ⟨cb,0,none⟩),.int .i64 v] 128) (some cb));have h0:=h.alloc (.cells #[.pointer (some ⟨cb,0,none⟩),.int .i64 v] 128);have H0:=hid h0;by_cases h5:v=5
 ·subst h5;have AH:=hid (q9lb (v:=5) hm h0);have hle:x.ahead.length<=x.r.length:=by unfold Cs.ahead;split;exact Nat.le_refl _;exact Nat.zero_le _
  obtain⟨L,k,F,hq⟩:∃L k F,qflw kind x.ahead=(L,k,F):=⟨_,_,_,rfl⟩
  have RD:=fun W=>q188 kind (bs x.ahead) L k F hk0 hk1 (by rw[q5zk];have:=h.len;omega) hq W;have hk2:k<=x.r.length:=by
   by_cases hF:F=0
   ·subst hF
    have:=(qugf hq).2.1
    omega
   ·have:=qjfk (kind:=kind) (s:=x.ahead) (by rw[hq];exact hF)
    rw[hq] at this
    have:k=0:=congrArg (fun z=>z.2.1) this
    omega
  have e1:x.props 5 kind=(L,if x.e=0 then⟨x.r.drop k,F⟩ else x):=by
   unfold Cs.props;by_cases he:x.e=0
   ·unfold Cs.ahead at hq;rw[if_pos he] at hq;simp[he,hq]
   ·unfold Cs.ahead at hq;rw[if_neg he,qjdx] at hq;simp[he,<-(Prod.mk.inj hq).1]
  rw[e1];have RD:=hid RD;have PS:=fun W (h:CsAt W cb s x)=>qa2g (v:=5) k F hk2 hm h;generalize (if x.e=0 then(⟨x.r.drop k,F⟩:Cs) else x)=y at *;have PS:=hid PS;have BX:=hid (qkvc w cb 5);have CB:=hid h.lt;unfold rdrV at *;clear h h0 hle hk2 e1 hq;go_in;go_wp2_with fail;refine(AH.out).mono ?_;rintro e w2 ⟨rfl,hb⟩;have Z2:=hid (show w.heap.size<w2.heap.size from Nat.lt_of_lt_of_le (lt_of_block BX.out) hb.size);have H2:=hid (H0.out.below hb);have G2:=hid (qo6d G0.out (q9cp hb (some cb)));have X2:=hid ((hb.block _ (lt_of_block BX.out)).trans BX.out);clear hb;go_wp2_with fail;refine(RD.out _).mono ?_;rintro e w3 ⟨hb,A,c,rfl,hc,hP,hO,hL,hA⟩;have H3:=hid (H2.out.below hb);have G3:=hid (qo6d G2.out (q9cp hb (some cb)));have P3:=hid hP;have Q3:=hid (And.intro hc (And.intro hO hL));have A3:=hid (fun g i (e:A=some ⟨g,i,none⟩)=>Nat.lt_of_lt_of_le Z2.out (hA g i e));have X3:=(hb.block _ (lt_of_block X2.out)).trans X2.out;have c0:w3.cell? ⟨w.heap.size,0,none⟩=some (.pointer (some ⟨cb,0,none⟩)):=cell_of_row _ _ 0 _ _ _ X3;have c1:w3.cell? ⟨w.heap.size,1,none⟩=some (.int .i64 5):=cell_of_row _ _ 1 _ _ _ X3;clear hb X3 hc hP hO hL hA;go_wp2_with fail;refine(PS.out _ H3.out).mono ?_;rintro e w4 ⟨rfl,hc,hg⟩;have H4:=hid hc;have G4:=hid (qo6d G3.out hg);have P4:=hid (P3.out.grown hg (fun g i e=>by have:=A3.out g i e;have:=CB.out;omega));clear hc hg c0 c1;go_wp2;go_ret;exact⟨⟨A,c,rfl,Q3.out.1,P4.out,A3.out⟩,Q3.out.2.1,Q3.out.2.2,H4.out,G4.out⟩
 ·have e1:x.props v kind=([],x):=by unfold Cs.props;rw[if_pos (.inr h5)]
  rw[e1];have h5':(v==5)=false:=beq_eq_false_iff_ne.2 h5;have h5n:(v != 5)=true:=by rw[show(v != 5)=!(v==5) from rfl,h5'];rfl
  unfold rdrV;clear h5 h5' h h0 e1;go_in;go_wp2;go_ret;exact⟨⟨none,0,rfl,Nat.zero_le _,fun e=>absurd rfl e,fun g i e=>by cases e⟩,fun p hp=>(nomatch hp),Nat.zero_le _,H0.out,G0.out⟩
def qvmk(c u a h r:Bool)(q:Int):Pk:={Pk.zero with kind:=1,clean:=c,hasUser:=u,hasPass:=a,hasWill:=h,wQos:=q,wRetain:=r}
def q8ku(f:Nat):Pk:=qvmk (f / 2%2==1) (f / 128%2==1) (f / 64%2==1) (f / 4%2==1) (f / 32%2==1) (f / 8%4:Nat)
theorem qmn0:∀f:Nat,f<256->(bits .and .i64 (f:Int) 2 != 0)=(f / 2%2==1)/\(bits .and .i64 (f:Int) 128 != 0)=(f / 128%2==1)/\(bits .and .i64 (f:Int) 64 != 0)=(f / 64%2==1)/\(bits .and .i64 (f:Int) 4 != 0)=(f / 4%2==1)/\(bits .and .i64 (f:Int) 32 != 0)=(f / 32%2==1)/\
 bits .and .i64 ((f:Int) / 8) 3=((f / 8%4:Nat):Int)/\(bits .and .i64 (f:Int) 1==0)=(f%2==0):=by decide+kernel
theorem qmea(f:Nat)(hf:f<256)(w:World) :
 Calls prog 215 #[.int .i64 (f:Nat)] w fun e w'=>e=.returned (.agg (pkC (q8ku f) adZ))/\Below w.heap.size w w':=by
 obtain⟨b2,b128,b64,b4,b32,bq,_⟩:=qmn0 f hf;have f0:(0:Int)<=f:=by omega
 have f1:(f:Int)<256:=by omega
 unfold q8ku;generalize (f / 2%2==1)=c at *;generalize (f / 128%2==1)=u at *;generalize (f / 64%2==1)=a at *;generalize (f / 4%2==1)=h at *;generalize (f / 32%2==1)=r at *;generalize ((f / 8%4:Nat):Int)=q at *;obtain⟨D,hD⟩:∃D,pkC (qvmk c u a h r q) adZ=D:=⟨_,rfl⟩
 have hD1:=qwmp (qvmk c u a h r q) adZ;have hD2:=qmz0 (qvmk c u a h r q) adZ;rw[hD] at hD1 hD2 ⊢;have HD:=hid hD;have HD1:=hid hD1;have HD2:=hid hD2;have HZ:=hid qbwp;have hzv:=qrai;have hne:¬pkZ=#[]:=by intro h;have:=qbwp;rw[h] at this;cases this
 have LO:=hid (q8xz (B:=w.heap.size) (k:=w.heap.size) (qybm (w:=w) (.cells pkZ 40)) (Nat.le_refl _) D);clear hD hD1 hD2 hf;go_in;go_wp2_with (first
  |(refine wpList_buildTo rfl 40 _ rfl (some 22) rfl D (by rw[<-HD.out];kernel_rfl) ?_)
  |(refine wpList_store_row rfl _ _ _ rfl w.heap.size D rfl rfl 40 _ (heap_alloc_new w _) (by rw[HD1.out];exact q5nr) (by rw[HZ.out,HD1.out]) HD2.out ?_))
 exact q7wi (cs:=D) rfl rfl rfl underlying40 rfl (by rw[HD1.out];exact q5nr) (setRow_heap _ _ _ _ _ _ (heap_alloc_new w _)) ⟨rfl,LO.out⟩
end
structure KcS(w:World)(cb:Nat)(s:ByteArray)(B:Nat)(y:Cs)(P:Pk)(a:Ad)(W:World):Prop where
 low:Below w.heap.size w W
 rs:W.heap[w.heap.size]?=some (.cells pkZ 40 (0,0))
 lt:w.heap.size<cb
 hB:cb<B
 pk:W.heap[B]?=some (.cells (pkC P a) 40 (0,0))
 cs:CsAt W cb s y
 ps:PL W a.ps P.props
 pc:P.props.length<=a.pc
 pf:∀g i,a.ps=some ⟨g,i,none⟩->B<g
section
variable{w W W':World}{cb:Nat}{s:ByteArray}{x y y':Cs}{B:Nat}{P P':Pk}{a a':Ad}
theorem KcS.call(h:KcS w cb s B y P a W)(hc:CsAt W' cb s y')(hg:W.grownBy W' (some cb)):KcS w cb s B y' P a W':=by
 have lt:=h.lt;have hB:=h.hB;exact⟨h.low.grown hg h.low.size (fun k e=>by have:=Option.some.inj e;omega),(hg.block _ (lt_of_block h.rs) (fun e=>by have:=Option.some.inj e;omega)).trans h.rs,lt,hB,
  (hg.block _ (lt_of_block h.pk) (fun e=>by have:=Option.some.inj e;omega)).trans h.pk,hc,h.ps.grown hg (fun g i e=>by have:=h.pf g i e;omega),h.pc,h.pf⟩
theorem KcS.below(h:KcS w cb s B y P a W)(hb:Below W.heap.size W W'):KcS w cb s B y P a W':=h.call (h.cs.below hb) (q9cp hb _)
theorem KcS.draws(h:KcS w cb s B y P a W)(n:Nat):KcS w cb s B y P a (W.drewN n):=h.below (qnpu (Below.refl _ _) n)
theorem KcS.cell(h:KcS w cb s B y P a W)(j:Nat):W.cell? ⟨B,j,none⟩=(pkC P a)[j]? := cell_of_row _ _ j _ _ _ h.pk
theorem KcS.fr(h:KcS w cb s B y P a W)(j:Nat):W.frozen? ⟨B,j,none⟩=false:=frozen_of_row _ _ _ _ _ h.pk
theorem KcS.set(h:KcS w cb s B y P a W)(j:Nat)(u:Value)(he:(pkC P a).setIfInBounds j u=pkC P' a')(ps:PL W a'.ps P'.props)(pc:P'.props.length<=a'.pc)(pf:∀g i,a'.ps=some ⟨g,i,none⟩->B<g):KcS w cb s B y P' a' (W.setCell ⟨B,j,none⟩ u):=by
 have o:∀k,k≠B->(W.setCell ⟨B,j,none⟩ u).heap[k]?=W.heap[k]? := fun k hk=>heap_setCell_other W ⟨B,j,none⟩ k u hk;have lt:=h.lt;have hB:=h.hB;exact⟨h.low.setCell (by show _<=B;omega) u,(o _ (by omega)).trans h.rs,lt,hB,by have:=qlvy h.pk j u;rw[he] at this;exact this,h.cs.of_block (o _ (by omega)),
  ps.kept (q99v W B j u).size (fun g i e _=>o g (by have:=pf g i e;omega)),pc,pf⟩
theorem KcS.laid(low:Below w.heap.size w W)(rs:W.heap[w.heap.size]?=some (.cells pkZ 40 (0,0)))(lt:w.heap.size<cb)(cs:CsAt W cb s y){D:Array Value}(hD:pkC P adZ=D)(hp:P.props=[]):KcS w cb s W.heap.size y P adZ ((W.alloc (.cells pkZ 40)).setRow W.heap.size D):=by have hb:Below W.heap.size W ((W.alloc (.cells pkZ 40)).setRow W.heap.size D):=q8xz (qybm _) (Nat.le_refl _) D;refine⟨qxh2 low hb,(hb.block _ (lt_of_block rs)).trans rs,lt,cs.lt,by rw[hD];exact setRow_heap _ _ _ D _ _ (heap_alloc_new W _),cs.below hb,?_,by rw[hp];exact Nat.zero_le _,fun g i e=>(by cases e)⟩;rw[hp];exact PL.nil
end
def qwnv(w:World)(l:List (List UInt8))(e:Ending)(W:World):Prop:=
 ∃A c,e=.returned (.slice A l.length c)/\SR W A l/\Below w.heap.size w W/\∀i j,A=some ⟨i,j,none⟩->w.heap.size<=i
structure CuS(w:World)(G:List (List UInt8))(x:Value)(W:World):Prop where
 low:Below w.heap.size w W
 own:W.ownsRow w.heap.size 9 1 x G.length (strs G)
section
variable{w W W':World}{G:List (List UInt8)}{x x':Value}
theorem CuS.call(h:CuS w G x W)(hb:Below W.heap.size W W'):CuS w G x W':=⟨h.low.trans (hb.mono h.low.size),qzd3 h.own hb⟩
theorem CuS.app(h:CuS w G x W)(p:List UInt8)(hG:G.length<=2000)(n:Nat):∃x' W',(Builtin.append_ #[42,42] 42 #[x,.slice (some ⟨W.heap.size,0,none⟩) 1 1]).run prog ((W.alloc (.cells #[.string (bs p)] 9)).drewN n)=.ok x' W'/\CuS w (G++[p]) x' W':=by
 obtain⟨i0,hi,hz0,hz1,hz2⟩:=info_parts qx89;have SA:CuS w G x ((W.alloc (.cells #[.string (bs p)] 9)).drewN n):=h.call (qnpu (qybm _) n);obtain⟨x',W',hr,ho,hg,-,hor⟩:=run_append_own_at (P:=prog) ((W.alloc (.cells #[.string (bs p)] 9)).drewN n) w.heap.size 42 42 9 i0 (.string .empty) 1 16 underlying42 hi hz0 hz1 hz2 rfl (by decide) x G.length (strs G) SA.own ⟨W.heap.size,0,none⟩ 1 1 [.string (bs p)] rfl
  (fun j u hj=>by rw[Addr.add_lit,Nat.zero_add];exact(cell_of_row _ _ j _ _ _ (heap_alloc_new W _)).trans (by simpa using hj)) (by simp[Value.oneCell']) (by simp only[maxLen];omega) (by omega) SA.low.size
 refine⟨x',W',hr,SA.low.grown hg SA.low.size (fun j hj=>(SA.own.lt j hj).1),?_⟩;rw[List.length_append];have e:strs (G++[p])=strs G++[.string (bs p)]:=by simp[strs]
 rw[e];exact ho
theorem CuS.ret(h:CuS w G x W):qwnv w G (.returned x) W:=by obtain⟨A,c,hx,-,hcl,hnew⟩:=CL.owned h.own (by simp[strs]);refine⟨A,c,by rw[hx],fun hne=>?_,h.low,hnew⟩;obtain⟨g,i,e,hg,hc⟩:=hcl (fun e=>hne (List.map_eq_nil_iff.1 e));exact⟨g,i,e,hg,fun j hj=>hc j _ (by simp[strs,List.getD,List.getElem?_eq_getElem hj])⟩
end
def qbmb(n:Nat)(zs:List Int):List Int:=(List.range n).map fun i=>zs.getD i 0
theorem qh9s{n k:Nat}(zs:List Int)(h:k<n):(qbmb n zs).drop k=zs.getD k 0::(qbmb n zs).drop (k+1):=by
 have hk:k<(qbmb n zs).length:=by simpa [qbmb] using h
 rw[List.drop_eq_getElem_cons hk];simp[qbmb]
theorem qv2k(s:ByteArray)(A:Option Addr)(n c:Nat)(zs:List Int)(w:World)(hs:s.size<=1000000)(hn:n<=1000)(hc:0<n->∃a,A=some a/\a.block<w.heap.size/\∀i,i<n->w.cell? (a.add i)=some (.int .i64 (zs.getD i 0))) :
 Calls prog 15 #[.string s,.slice A n c] w (qwnv w (cutK s.data.toList (qbmb n zs))):=by
 have HS:=hid (And.intro hs hn);have HC:=hid hc;have S0:CuS w [] (.slice none 0 0) w:=⟨Below.refl _ _,World.ownsRow_nil _ _ _ _⟩
 obtain⟨R,hR⟩:∃R,cutK s.data.toList (qbmb n zs)=R:=⟨_,rfl⟩
 rw[hR];have HR:=hid hR;have S0:=hid S0;clear hs hn hc hR
 go_in
 go_wp2_with fail
 go_loopg [0,5,6,7] n (fun gk s0 s5 s6 s7 wr=>∃(k:Nat) (r:ByteArray) (G:List (List UInt8)) (x:Value),gk=n-k/\s0=.string r/\x=s5/\s6=.int .i64 (k:Int)/\k<=n/\G.length=k/\r.size<=1000000/\R=G++cutK r.data.toList ((qbmb n zs).drop k)/\CuS w G x wr)
 case atStart=>exact⟨0,s,[],_,rfl,rfl,rfl,rfl,Nat.zero_le _,rfl,HS.out.1,by rw[List.drop_zero,List.nil_append,HR.out],S0.out⟩
 case round=>
  obtain⟨k,r,G,x,rfl,rfl,rfl,rfl,hk,hG,hr,hR,hS⟩:=hrel;clear S0 HR;have HT:=hid hS;by_cases hlt:k<n
  ·obtain⟨a,rfl,hab,hcell⟩:=HC.out (by omega);have hck:wr.cell? (a.add k)=some (.int .i64 (zs.getD k 0)):=(World.cell?_of_block (a:=a.add k) (by
    have:(a.add k).block=a.block:=by obtain⟨b,o,s⟩:=a;unfold Addr.add;split<;>rfl
    rw[this];exact hS.low.block _ hab)).trans (hcell k hlt)
   obtain⟨b,hb⟩:∃b,zs.getD k 0=b:=⟨_,rfl⟩
   rw[hb] at hck;have hrI:(r.size:Int)<=1000000:=by omega
   have PK:=fun W=>qhhox b ((r.size:Int)+1) W (by omega) (by omega);obtain⟨j,hj⟩:∃j:Nat,b%((r.size:Int)+1)=(j:Int):=⟨(b%((r.size:Int)+1)).toNat,by have:=Int.emod_nonneg b (b:=(r.size:Int)+1) (by omega);omega⟩
   have hjr:(j:Int)<=(r.size:Int):=by have:=Int.emod_lt_of_pos b (b:=(r.size:Int)+1) (by omega);omega
   rw[hj] at PK;rw[qh9s zs hlt,qp0l,hb,<-q4ad,hj,Int.toNat_natCast] at hR;obtain⟨p,hp⟩:∃p,r.data.toList.take j=p:=⟨_,rfl⟩
   have hp1:r.extract 0 j=bs p:=by
    have:=q31q r 0 j
    rw[Nat.zero_add,List.drop_zero] at this;rw[this,hp]
   have hp2:(r.extract j r.size).data.toList=r.data.toList.drop j:=by
    have:=q31q r j (r.size-j)
    rw[show j+(r.size-j)=r.size by omega] at this;rw[this,qkd1,List.take_of_length_le (by rw[List.length_drop,<-q4ad];omega)]
   have hps:(r.extract j r.size).size<=1000000:=by rw[ByteArray.size_extract];omega
   rw[hp,<-hp2] at hR;obtain⟨p2,hp2'⟩:∃p2,r.extract j r.size=p2:=⟨_,rfl⟩
   rw[hp2'] at hR hps;have HRR:=hid (And.intro hR (And.intro hps (And.intro hG hlt)));have PK:=hid PK;have hk1000:(k:Int)<=1000:=by have:=HS.out.2;omega
   obtain⟨x',W',hrun,SN⟩:=hS.app p (by have:=HS.out.2;omega) 1;have SN:=hid SN;clear hR hps hp2 hp hS hG hr hab hcell hb hk hj;go_wp2_with fail;refine(PK.out _).mono ?_;rintro e1 W1 ⟨rfl,rfl⟩;go_wp2_with fail
   go_region_law (refine q6zi (by rfl) _ _ _ _ (by rfl) (by rfl) (by rfl) hrun ?_)
   all_goals
    clear hrun hp1 hp2';go_wp2_with fail
    go_roundg (n-(k+1))
    case measure=>have:=HRR.out;omega
    case rel=>
     refine⟨k+1,p2,G++[p],_,rfl,rfl,rfl,?_,HRR.out.2.2.2,?_,HRR.out.2.1,?_,SN.out⟩
     ·first|go_num|exact congrArg (Value.int IntKind.i64) (by unfold wrap64;omega)
     ·rw[List.length_append,List.length_singleton,HRR.out.2.2.1]
     ·rw[List.append_assoc];exact HRR.out.1
  ·obtain rfl:k=n:=by omega
   have hd:(qbmb k zs).drop k=[]:=by rw[List.drop_of_length_le (by simp[qbmb])]
   rw[hd] at hR;obtain⟨x',W',hrun,SN⟩:=hS.app r.data.toList (by have:=HS.out.2;omega) 0;have FIN:=SN.ret;rw[<-show R=G++[r.data.toList] from hR] at FIN;obtain⟨A',c',hx',-,-⟩:=id FIN;have FIN:=hid FIN;have HX:=hid hx';have hrun:(Builtin.append_ #[42,42] 42 #[x,.slice (some ⟨wr.heap.size,0,none⟩) 1 1]).run prog (wr.alloc (.cells #[.string r] 9))=.ok x' W':=hrun;clear hlt hd hR SN hS hG hr hk hx' HT;go_wp2_with (at_builtin;refine qrfq rfl _ _ _ _ rfl rfl rfl hrun ?_);go_ret;exact FIN.out
end Go.Proofs.YtlhkgidoaggodaaGreatDoor
