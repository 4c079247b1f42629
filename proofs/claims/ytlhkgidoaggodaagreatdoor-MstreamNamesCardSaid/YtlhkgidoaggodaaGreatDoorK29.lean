/- The contract of prop.Read, as a law's walk wants it. Condition: the bytes are no more than an int says. -/
import Derived.Test.YtlhkgidoaggodaaGreatDoorK28
import Derived.Test.YtlhkgidoaggodaaGreatDoorK16
import Derived.Test.YtlhkgidoaggodaaGreatDoorK07
set_option maxRecDepth 100000
namespace Go.Proofs.YtlhkgidoaggodaaGreatDoor
open Lib(hid)
open Proofs.Tryz
open Go.RowKit
theorem q188(kind:Int)(s:ByteArray)(L:List Pr)(k F:Nat)(hk0:-9223372036854775808<=kind)(hk1:kind<=9223372036854775807)(hm:s.size<=9223372036854775807)(hq:qflw kind s.data.toList=(L,k,F))(W:World) :
 Calls prog 143 #[.int .i64 kind,.string s] W fun e W'=>Below W.heap.size W W'/\∃A c,e=.returned (.tuple #[.slice A L.length c,.int .i64 (k:Nat),.int .i64 (F:Nat)])/\L.length<=c/\PL W' A L/\(∀p∈L,PrOk p)/\L.length<=1000/\∀g i,A=some ⟨g,i,none⟩->W.heap.size<=g:=by
 have:=q3kx kind s W hk0 hk1 hm
 rw[hq] at this;refine this.mono fun e W' ⟨hb,ok,hl,v,he,ho⟩=>⟨hb,?_⟩
 obtain⟨A,c,rfl,hc,hP,hg⟩:=PL.owned ho rfl;exact⟨A,c,he,hc,hP,ok,hl,hg⟩
end Go.Proofs.YtlhkgidoaggodaaGreatDoor
namespace Go.Proofs.YtlhkgidoaggodaaGreatDoor
open Lib(hid)
open Proofs.Tryz
theorem qoa7{kind:Int}{p:Pr}(h:qr4y kind p=0):PrOk p/\p.text.length<=65535/\p.value.length<=65535:=by
 obtain⟨hm,h4,h5⟩:=qo1o h;obtain⟨_,h1,h2,_⟩:=qttn h;obtain⟨r1,r2⟩:=qilb hm;obtain⟨f0,f7,f1,f2,f3,f4,_⟩:=qznl hm;have hn:p.n<4294967296:=by
  by_cases hs:qwgc p.id<=4
  ·have h6:=(h4 hs).2.2.2;have hs4:qwgc p.id=1\/qwgc p.id=2\/qwgc p.id=3\/qwgc p.id=4:=by omega
   rcases hs4 with e|e|e|e
   ·have:=f1 e;omega
   ·have:=f2 e;omega
   ·have:=f3 e;omega
   ·have:=f4 e;omega
  ·have:=(h5 (by omega)).1;omega
 exact⟨⟨by omega,by omega,hn,by omega,by omega⟩,h1,h2⟩
theorem qdz1(kind:Int)(s:List UInt8):(∀p∈(qflw kind s).1,PrOk p/\p.text.length<=65535/\p.value.length<=65535)/\(qflw kind s).1.length<=1000:=by
 by_cases h:(qflw kind s).2.2=0
 ·have hv:=(qugf (show qflw kind s=((qflw kind s).1,(qflw kind s).2.1,0) by rw[<-h])).1;obtain⟨h1,h2,_⟩:=(qgl5 _ _).1 hv;exact⟨fun p hp=>qoa7 (h2.1 p hp),h1⟩
 ·rw[qjfk h];exact⟨fun p hp=>(nomatch hp),Nat.zero_le _⟩
theorem q5pm(x:Cs)(v kind:Int):(∀p∈(x.props v kind).1,PrOk p/\p.text.length<=65535/\p.value.length<=65535)/\(x.props v kind).1.length<=1000:=by
 unfold Cs.props;split
 ·exact⟨fun p hp=>(nomatch hp),Nat.zero_le _⟩
 ·exact qdz1 _ _
end Go.Proofs.YtlhkgidoaggodaaGreatDoor
namespace Go.Proofs.YtlhkgidoaggodaaGreatDoor
open Lib(hid)
open Proofs.Tryz
open Go.RowKit
section
variable{w W W':World}{cb:Nat}{s:ByteArray}{x:Cs}
def Cs.ahead(x:Cs):List UInt8:=if x.e=0 then x.r else []
theorem qitj(hm:s.size<=9223372036854775807)(h:CsAt w cb s x) :
 Calls prog 231 #[.pointer (some ⟨cb,0,none⟩),.int .i64 (x.r.length:Nat)] w fun e w'=>e=.returned (.string (bs x.ahead))/\∃n,w'=w.drewN n:=by
 obtain⟨i,hi,hc,hr⟩:=h;have hl:x.r.length=s.size-i:=by rw[<-hr,List.length_drop,<-q4ad]
 unfold Cs.ahead;by_cases he:x.e=0
 ·rw[if_pos he];rw[he] at hc;refine(q64u x.r.length hc (by omega) hm).mono fun e w' ⟨h1,h2⟩=>⟨?_,h2⟩
  rw[h1,q31q,hr,List.take_length]
 ·rw[if_neg he];exact(qtyr (x.r.length:Int) hc (by simp;omega)).mono fun e w' ⟨h1,h2⟩=>⟨h1,h2⟩
end
def rdrV(cb:Nat)(v:Int):Value := .agg #[.pointer (some ⟨cb,0,none⟩),.int .i64 v]
section
variable{w W W':World}{cb:Nat}{s:ByteArray}{x:Cs}{v:Int}
theorem qkvc(w:World)(cb:Nat)(v:Int):(w.alloc (.cells #[.pointer (some ⟨cb,0,none⟩),.int .i64 v] 128)).heap[w.heap.size]?=some (.cells #[.pointer (some ⟨cb,0,none⟩),.int .i64 v] 128 (0,0)):=heap_alloc_new w _
theorem qr75(b:Bool)(f:Nat)(h:CsAt w cb s x) :
 Calls prog 92 #[rdrV cb v,.bool b,.int .i64 (f:Nat)] w fun e w'=>e=.returned (.tuple #[])/\CsAt w' cb s (if b then x else x.fail f)/\w.grownBy w' (some cb):=by
 have G0:=hid (World.grownBy_alloc w (.cells #[.pointer (some ⟨cb,0,none⟩),.int .i64 v] 128) (some cb));have h0:=h.alloc (.cells #[.pointer (some ⟨cb,0,none⟩),.int .i64 v] 128);have FL:=hid (qazj f h0);have H0:=hid h0;unfold rdrV;clear h h0;cases b with
 |true=>
  go_in;go_wp2_with fail
  go_end0
  exact⟨rfl,H0.out,G0.out⟩
 |false=>
  go_in;go_wp2_with fail;refine(FL.out).mono ?_;rintro e w2 ⟨rfl,hc,hg⟩;have HC:=hid hc;have HG:=hid (qo6d G0.out hg);clear hc hg;go_wp2_with fail
  go_end0
  exact⟨rfl,HC.out,HG.out⟩
theorem q0ph(x:Cs)(n:Nat)(hn:n<=2):(x.num n).1<65536:=by
 unfold Cs.num
 have:=qn9h (x.take n).1
 have hl:(x.take n).1.length<=2:=by
  unfold Cs.take;split
  ·simp
  ·split
   ·simp
   ·simp;omega
 have:256^(x.take n).1.length<=256^2:=Nat.pow_le_pow_right (by decide) hl
 omega
theorem qevs(hm:s.size<=9223372036854775807)(h:CsAt w cb s x) :
 Calls prog 168 #[rdrV cb v] w fun e w'=>e=.returned (.int .i64 ((x.num 1).1:Nat))/\CsAt w' cb s (x.num 1).2/\w.grownBy w' (some cb):=by
 have G0:=hid (World.grownBy_alloc w (.cells #[.pointer (some ⟨cb,0,none⟩),.int .i64 v] 128) (some cb));have h0:=h.alloc (.cells #[.pointer (some ⟨cb,0,none⟩),.int .i64 v] 128);have NM:=q8yf 1 (by decide) hm h0;have hlt:=q0ph x 1 (by decide);generalize x.num 1=z at *;obtain⟨z1,z2⟩:=z;have NM:=hid NM;have hz0:(0:Int)<=z1:=by omega
 have hz:(z1:Int)<65536:=by omega
 unfold rdrV;clear h h0 hlt;go_in;go_wp2_with fail;refine(NM.out).mono ?_;rintro e w2 ⟨rfl,hc,hg⟩;have HC:=hid hc;have HG:=hid (qo6d G0.out hg);clear hc hg;go_wp2;go_ret;exact⟨rfl,HC.out,HG.out⟩
theorem q9lb(hm:s.size<=9223372036854775807)(h:CsAt w cb s x) :
 Calls prog 213 #[rdrV cb v] w fun e w'=>e=.returned (.string (bs x.ahead))/\Below w.heap.size w w':=by
 have B0:=hid (qybm (w:=w) (.cells #[.pointer (some ⟨cb,0,none⟩),.int .i64 v] 128));have h0:=h.alloc (.cells #[.pointer (some ⟨cb,0,none⟩),.int .i64 v] 128);have LF:=hid (fun n=>qjtm hm (h0.draws n));have PK:=hid (fun n=>qitj hm (h0.draws n));have DR:∀a b:Nat,((w.alloc (.cells #[.pointer (some ⟨cb,0,none⟩),.int .i64 v] 128)).drewN a).drewN b=(w.alloc (.cells #[.pointer (some ⟨cb,0,none⟩),.int .i64 v] 128)).drewN (a+b):=fun a b=>by simp
 have DR:=hid DR;unfold rdrV;clear h h0;go_in;go_wp2_with fail;go_quiet (first
  |(go_at_call 51;exact(LF.out _).mono fun _ _ h=>⟨h.1,qrso h.2⟩)
  |(go_at_call 231;exact(PK.out _).mono fun _ _ h=>⟨h.1,qrso h.2⟩))
 go_wp2;go_ret;exact⟨rfl,qnpu B0.out _⟩
theorem qa2g(k f:Nat)(hk:k<=x.r.length)(hm:s.size<=9223372036854775807)(h:CsAt w cb s x) :
 Calls prog 214 #[rdrV cb v,.int .i64 (k:Nat),.int .i64 (f:Nat)] w fun e w'=>e=.returned (.tuple #[])/\CsAt w' cb s (if x.e=0 then⟨x.r.drop k,f⟩ else x)/\w.grownBy w' (some cb):=by
 have G0:=hid (World.grownBy_alloc w (.cells #[.pointer (some ⟨cb,0,none⟩),.int .i64 v] 128) (some cb));have h0:=h.alloc (.cells #[.pointer (some ⟨cb,0,none⟩),.int .i64 v] 128);have TK:=hid (qgtr k hm h0);have e1:((x.take k).2.fail f)=if x.e=0 then⟨x.r.drop k,f⟩ else x:=by
  unfold Cs.take Cs.fail;by_cases he:x.e=0
  ·simp[he,show ¬x.r.length<k by omega]
  ·simp[he]
 rw[<-e1];have BX:=hid (qkvc w cb v);have hne:w.heap.size≠cb:=Nat.ne_of_gt h.lt;unfold rdrV;clear h h0 e1 hk;go_in;go_wp2_with fail;refine(TK.out).mono ?_;rintro e w2 ⟨rfl,hc,hg⟩;have hb2:=(hg.block w.heap.size (by simp) (fun e=>hne (Option.some.inj e))).trans BX.out;have c0:w2.cell? ⟨w.heap.size,0,none⟩=some (.pointer (some ⟨cb,0,none⟩)):=cell_of_row _ _ 0 _ _ _ hb2;have FL:=hid (qazj f hc);have HG:=hid (qo6d G0.out hg);clear hc hg hb2;go_wp2_with fail;refine(FL.out).mono ?_;rintro e w3 ⟨rfl,hc,hg⟩;have HC:=hid hc;have HG2:=hid (qo6d HG.out hg);clear hc hg c0;go_wp2_with fail
 go_end0
 exact⟨rfl,HC.out,HG2.out⟩
theorem qe36:rdB []=([],0,3):=by decide
theorem qg2y:rdT []=([],0,3):=by decide
theorem qgsz(hm:s.size<=9223372036854775807)(h:CsAt w cb s x) :
 Calls prog 216 #[rdrV cb v,.func (.func 142) #[] #[]] w fun e w'=>e=.returned (.string (bs x.text.1))/\CsAt w' cb s x.text.2/\w.grownBy w' (some cb):=by
 have G0:=hid (World.grownBy_alloc w (.cells #[.pointer (some ⟨cb,0,none⟩),.int .i64 v] 128) (some cb));have h0:=h.alloc (.cells #[.pointer (some ⟨cb,0,none⟩),.int .i64 v] 128);have AH:=hid (q9lb (v:=v) hm h0);have hle:x.ahead.length<=x.r.length:=by unfold Cs.ahead;split;exact Nat.le_refl _;exact Nat.zero_le _
 have RD:=fun W=>q2z4 (bs x.ahead) W (by rw[q5zk];have:=h.len;omega);rw[qkd1] at RD;have hk:=(qslt x.ahead).1;have hk2:(rdT x.ahead).2.1<=x.r.length:=Nat.le_trans hk hle;have e1:x.text=((rdT x.ahead).1,if x.e=0 then⟨x.r.drop (rdT x.ahead).2.1,(rdT x.ahead).2.2⟩ else x):=by
  unfold Cs.text Cs.ahead;by_cases he:x.e=0
  ·simp[he]
  ·simp[he,qg2y]
 rw[e1];generalize rdT x.ahead=z at *;obtain⟨t,k,f⟩:=z;have RD:=hid RD;have PS:=fun W (h:CsAt W cb s x)=>qa2g (v:=v) k f hk2 hm h;generalize (if x.e=0 then(⟨x.r.drop k,f⟩:Cs) else x)=y at *;have PS:=hid PS;have H0:=hid h0;have BX:=hid (qkvc w cb v);have hne:w.heap.size≠cb:=Nat.ne_of_gt h.lt;unfold rdrV at *;unfold ok3 at RD;clear h h0 hle hk hk2 e1;go_in;go_wp2_with fail;refine(AH.out).mono ?_;rintro e w2 ⟨rfl,hb⟩;have H2:=hid (H0.out.below hb);have G2:=hid (qo6d G0.out (q9cp hb (some cb)));have X2:=hid ((hb.block _ (lt_of_block BX.out)).trans BX.out);clear hb;go_wp2_with fail;refine(RD.out _).mono ?_;rintro e w3 ⟨rfl,hb⟩;have H3:=hid (H2.out.below hb);have G3:=hid (qo6d G2.out (q9cp hb (some cb)));have X3:=(hb.block _ (lt_of_block X2.out)).trans X2.out;have c0:w3.cell? ⟨w.heap.size,0,none⟩=some (.pointer (some ⟨cb,0,none⟩)):=cell_of_row _ _ 0 _ _ _ X3;have c1:w3.cell? ⟨w.heap.size,1,none⟩=some (.int .i64 v):=cell_of_row _ _ 1 _ _ _ X3;clear hb X3;go_wp2_with fail;refine(PS.out _ H3.out).mono ?_;rintro e w4 ⟨rfl,hc,hg⟩;have H4:=hid hc;have G4:=hid (qo6d G3.out hg);clear hc hg c0 c1;go_wp2;go_ret;exact⟨rfl,H4.out,G4.out⟩
theorem q444(hm:s.size<=9223372036854775807)(h:CsAt w cb s x) :
 Calls prog 216 #[rdrV cb v,.func (.func 184) #[] #[]] w fun e w'=>e=.returned (.string (bs x.bin.1))/\CsAt w' cb s x.bin.2/\w.grownBy w' (some cb):=by
 have G0:=hid (World.grownBy_alloc w (.cells #[.pointer (some ⟨cb,0,none⟩),.int .i64 v] 128) (some cb));have h0:=h.alloc (.cells #[.pointer (some ⟨cb,0,none⟩),.int .i64 v] 128);have AH:=hid (q9lb (v:=v) hm h0);have hle:x.ahead.length<=x.r.length:=by unfold Cs.ahead;split;exact Nat.le_refl _;exact Nat.zero_le _
 have RD:=fun W=>qgvs (bs x.ahead) W (by rw[q5zk];have:=h.len;omega);rw[qkd1] at RD;have hk:=(q3gm x.ahead).1;have hk2:(rdB x.ahead).2.1<=x.r.length:=Nat.le_trans hk hle;have e1:x.bin=((rdB x.ahead).1,if x.e=0 then⟨x.r.drop (rdB x.ahead).2.1,(rdB x.ahead).2.2⟩ else x):=by
  unfold Cs.bin Cs.ahead;by_cases he:x.e=0
  ·simp[he]
  ·simp[he,qe36]
 rw[e1];generalize rdB x.ahead=z at *;obtain⟨t,k,f⟩:=z;have RD:=hid RD;have PS:=fun W (h:CsAt W cb s x)=>qa2g (v:=v) k f hk2 hm h;generalize (if x.e=0 then(⟨x.r.drop k,f⟩:Cs) else x)=y at *;have PS:=hid PS;have H0:=hid h0;have BX:=hid (qkvc w cb v);have hne:w.heap.size≠cb:=Nat.ne_of_gt h.lt;unfold rdrV at *;unfold ok3 at RD;clear h h0 hle hk hk2 e1;go_in;go_wp2_with fail;refine(AH.out).mono ?_;rintro e w2 ⟨rfl,hb⟩;have H2:=hid (H0.out.below hb);have G2:=hid (qo6d G0.out (q9cp hb (some cb)));have X2:=hid ((hb.block _ (lt_of_block BX.out)).trans BX.out);clear hb;go_wp2_with fail;refine(RD.out _).mono ?_;rintro e w3 ⟨rfl,hb⟩;have H3:=hid (H2.out.below hb);have G3:=hid (qo6d G2.out (q9cp hb (some cb)));have X3:=(hb.block _ (lt_of_block X2.out)).trans X2.out;have c0:w3.cell? ⟨w.heap.size,0,none⟩=some (.pointer (some ⟨cb,0,none⟩)):=cell_of_row _ _ 0 _ _ _ X3;have c1:w3.cell? ⟨w.heap.size,1,none⟩=some (.int .i64 v):=cell_of_row _ _ 1 _ _ _ X3;clear hb X3;go_wp2_with fail;refine(PS.out _ H3.out).mono ?_;rintro e w4 ⟨rfl,hc,hg⟩;have H4:=hid hc;have G4:=hid (qo6d G3.out hg);clear hc hg c0 c1;go_wp2;go_ret;exact⟨rfl,H4.out,G4.out⟩
theorem qt5a(hm:s.size<=9223372036854775807)(h:CsAt w cb s x) :
 Calls prog 171 #[rdrV cb v] w fun e w'=>e=.returned (.string (bs x.text.1))/\CsAt w' cb s x.text.2/\w.grownBy w' (some cb):=by
 have G0:=hid (World.grownBy_alloc w (.cells #[.pointer (some ⟨cb,0,none⟩),.int .i64 v] 128) (some cb));have h0:=h.alloc (.cells #[.pointer (some ⟨cb,0,none⟩),.int .i64 v] 128);have PI:=hid (qgsz (v:=v) hm h0);unfold rdrV at *;clear h h0;go_in;go_wp2_with fail;refine(PI.out).mono ?_;rintro e w2 ⟨rfl,hc,hg⟩;have H2:=hid hc;have G2:=hid (qo6d G0.out hg);clear hc hg;go_wp2;go_ret;exact⟨rfl,H2.out,G2.out⟩
theorem q932(hm:s.size<=9223372036854775807)(h:CsAt w cb s x) :
 Calls prog 172 #[rdrV cb v] w fun e w'=>e=.returned (.string (bs x.bin.1))/\CsAt w' cb s x.bin.2/\w.grownBy w' (some cb):=by
 have G0:=hid (World.grownBy_alloc w (.cells #[.pointer (some ⟨cb,0,none⟩),.int .i64 v] 128) (some cb));have h0:=h.alloc (.cells #[.pointer (some ⟨cb,0,none⟩),.int .i64 v] 128);have PI:=hid (q444 (v:=v) hm h0);unfold rdrV at *;clear h h0;go_in;go_wp2_with fail;refine(PI.out).mono ?_;rintro e w2 ⟨rfl,hc,hg⟩;have H2:=hid hc;have G2:=hid (qo6d G0.out hg);clear hc hg;go_wp2;go_ret;exact⟨rfl,H2.out,G2.out⟩
end
section
variable{w W W':World}{cb:Nat}{s:ByteArray}{x:Cs}{v:Int}
theorem q5sz(kind:Int)(hk0:-9223372036854775808<=kind)(hk1:kind<=9223372036854775807)(hm:s.size<=9223372036854775807)(h:CsAt w cb s x) :
 Calls prog 169 #[rdrV cb v,.int .i64 kind] w fun e w'=>(∃A c,e=.returned (.slice A (x.props v kind).1.length c)/\(x.props v kind).1.length<=c/\PL w' A (x.props v kind).1/\∀g i,A=some ⟨g,i,none⟩->w.heap.size<g)/\(∀p∈(x.props v kind).1,PrOk p)/\(x.props v kind).1.length<=1000/\CsAt w' cb s (x.props v kind).2/\w.grownBy w' (some cb):=by
 have G0:=hid (World.grownBy_alloc w (.cells #[.pointer (some ⟨cb,0,none⟩),.int .i64 v] 128) (some cb));have h0:=h.alloc (.cells #[.pointer (some ⟨cb,0,none⟩),.int .i64 v] 128);have H0:=hid h0;by_cases h5:v=5
 ·subst h5;have AH:=hid (q9lb (v:=5) hm h0);have hle:x.ahead.length<=x.r.length:=by unfold Cs.ahead;split;exact Nat.le_refl _;exact Nat.zero_le _
  obtain⟨L,k,F,hq⟩:∃L k F,qflw kind x.ahead=(L,k,F):=⟨_,_,_,rfl⟩
  have RD:=fun W=>q188 kind (bs x.ahead) L k F hk0 hk1 (by rw[q5zk];have:=h.len;omega) hq W;have hk2:k<=x.r.length:=by
   by_cases hF:F=0
   ·subst hF
    have:=(qugf hq).2.1
    omega
   ·have:=qjfk (kind:=kind) (s:=x.ahead) (by rw[hq];exact hF)
    rw[hq] at this
    have:k=0:=congrArg (fun z=>z.2.1) this
    omega
  have e1:x.props 5 kind=(L,if x.e=0 then⟨x.r.drop k,F⟩ else x):=by
   unfold Cs.props;by_cases he:x.e=0
   ·unfold Cs.ahead at hq;rw[if_pos he] at hq;simp[he,hq]
   ·unfold Cs.ahead at hq;rw[if_neg he,qjdx] at hq;simp[he,<-(Prod.mk.inj hq).1]
  rw[e1];have RD:=hid RD;have PS:=fun W (h:CsAt W cb s x)=>qa2g (v:=5) k F hk2 hm h;generalize (if x.e=0 then(⟨x.r.drop k,F⟩:Cs) else x)=y at *;have PS:=hid PS;have BX:=hid (qkvc w cb 5);have CB:=hid h.lt;unfold rdrV at *;clear h h0 hle hk2 e1 hq;go_in;go_wp2_with fail;refine(AH.out).mono ?_;rintro e w2 ⟨rfl,hb⟩;have Z2:=hid (show w.heap.size<w2.heap.size from Nat.lt_of_lt_of_le (lt_of_block BX.out) hb.size);have H2:=hid (H0.out.below hb);have G2:=hid (qo6d G0.out (q9cp hb (some cb)));have X2:=hid ((hb.block _ (lt_of_block BX.out)).trans BX.out);clear hb;go_wp2_with fail;refine(RD.out _).mono ?_;rintro e w3 ⟨hb,A,c,rfl,hc,hP,hO,hL,hA⟩;have H3:=hid (H2.out.below hb);have G3:=hid (qo6d G2.out (q9cp hb (some cb)));have P3:=hid hP;have Q3:=hid (And.intro hc (And.intro hO hL));have A3:=hid (fun g i (e:A=some ⟨g,i,none⟩)=>Nat.lt_of_lt_of_le Z2.out (hA g i e));have X3:=(hb.block _ (lt_of_block X2.out)).trans X2.out;have c0:w3.cell? ⟨w.heap.size,0,none⟩=some (.pointer (some ⟨cb,0,none⟩)):=cell_of_row _ _ 0 _ _ _ X3;have c1:w3.cell? ⟨w.heap.size,1,none⟩=some (.int .i64 5):=cell_of_row _ _ 1 _ _ _ X3;clear hb X3 hc hP hO hL hA;go_wp2_with fail;refine(PS.out _ H3.out).mono ?_;rintro e w4 ⟨rfl,hc,hg⟩;have H4:=hid hc;have G4:=hid (qo6d G3.out hg);have P4:=hid (P3.out.grown hg (fun g i e=>by have:=A3.out g i e;have:=CB.out;omega));clear hc hg c0 c1;go_wp2;go_ret;exact⟨⟨A,c,rfl,Q3.out.1,P4.out,A3.out⟩,Q3.out.2.1,Q3.out.2.2,H4.out,G4.out⟩
 ·have e1:x.props v kind=([],x):=by unfold Cs.props;rw[if_pos (.inr h5)]
  rw[e1];have h5':(v==5)=false:=beq_eq_false_iff_ne.2 h5;have h5n:(v != 5)=true:=by rw[show(v != 5)=!(v==5) from rfl,h5'];rfl
  unfold rdrV;clear h5 h5' h h0 e1;go_in;go_wp2;go_ret;exact⟨⟨none,0,rfl,Nat.zero_le _,fun e=>absurd rfl e,fun g i e=>by cases e⟩,fun p hp=>(nomatch hp),Nat.zero_le _,H0.out,G0.out⟩
def qvmk(c u a h r:Bool)(q:Int):Pk:={Pk.zero with kind:=1,clean:=c,hasUser:=u,hasPass:=a,hasWill:=h,wQos:=q,wRetain:=r}
def q8ku(f:Nat):Pk:=qvmk (f / 2%2==1) (f / 128%2==1) (f / 64%2==1) (f / 4%2==1) (f / 32%2==1) (f / 8%4:Nat)
theorem qmn0:∀f:Nat,f<256->(bits .and .i64 (f:Int) 2 != 0)=(f / 2%2==1)/\(bits .and .i64 (f:Int) 128 != 0)=(f / 128%2==1)/\(bits .and .i64 (f:Int) 64 != 0)=(f / 64%2==1)/\(bits .and .i64 (f:Int) 4 != 0)=(f / 4%2==1)/\(bits .and .i64 (f:Int) 32 != 0)=(f / 32%2==1)/\
 bits .and .i64 ((f:Int) / 8) 3=((f / 8%4:Nat):Int)/\(bits .and .i64 (f:Int) 1==0)=(f%2==0):=by decide+kernel
theorem qmea(f:Nat)(hf:f<256)(w:World) :
 Calls prog 215 #[.int .i64 (f:Nat)] w fun e w'=>e=.returned (.agg (pkC (q8ku f) adZ))/\Below w.heap.size w w':=by
 obtain⟨b2,b128,b64,b4,b32,bq,_⟩:=qmn0 f hf;have f0:(0:Int)<=f:=by omega
 have f1:(f:Int)<256:=by omega
 unfold q8ku;generalize (f / 2%2==1)=c at *;generalize (f / 128%2==1)=u at *;generalize (f / 64%2==1)=a at *;generalize (f / 4%2==1)=h at *;generalize (f / 32%2==1)=r at *;generalize ((f / 8%4:Nat):Int)=q at *;obtain⟨D,hD⟩:∃D,pkC (qvmk c u a h r q) adZ=D:=⟨_,rfl⟩
 have hD1:=qwmp (qvmk c u a h r q) adZ;have hD2:=qmz0 (qvmk c u a h r q) adZ;rw[hD] at hD1 hD2 ⊢;have HD:=hid hD;have HD1:=hid hD1;have HD2:=hid hD2;have HZ:=hid qbwp;have hzv:=qrai;have hne:¬pkZ=#[]:=by intro h;have:=qbwp;rw[h] at this;cases this
 have LO:=hid (q8xz (B:=w.heap.size) (k:=w.heap.size) (qybm (w:=w) (.cells pkZ 40)) (Nat.le_refl _) D);clear hD hD1 hD2 hf;go_in;go_wp2_with (first
  |(refine wpList_buildTo rfl 40 _ rfl (some 22) rfl D (by rw[<-HD.out];kernel_rfl) ?_)
  |(refine wpList_store_row rfl _ _ _ rfl w.heap.size D rfl rfl 40 _ (heap_alloc_new w _) (by rw[HD1.out];exact q5nr) (by rw[HZ.out,HD1.out]) HD2.out ?_))
 exact q7wi (cs:=D) rfl rfl rfl underlying40 rfl (by rw[HD1.out];exact q5nr) (setRow_heap _ _ _ _ _ _ (heap_alloc_new w _)) ⟨rfl,LO.out⟩
end
structure KcS(w:World)(cb:Nat)(s:ByteArray)(B:Nat)(y:Cs)(P:Pk)(a:Ad)(W:World):Prop where
 low:Below w.heap.size w W
 rs:W.heap[w.heap.size]?=some (.cells pkZ 40 (0,0))
 lt:w.heap.size<cb
 hB:cb<B
 pk:W.heap[B]?=some (.cells (pkC P a) 40 (0,0))
 cs:CsAt W cb s y
 ps:PL W a.ps P.props
 pc:P.props.length<=a.pc
 pf:∀g i,a.ps=some ⟨g,i,none⟩->B<g
section
variable{w W W':World}{cb:Nat}{s:ByteArray}{x y y':Cs}{B:Nat}{P P':Pk}{a a':Ad}
theorem KcS.call(h:KcS w cb s B y P a W)(hc:CsAt W' cb s y')(hg:W.grownBy W' (some cb)):KcS w cb s B y' P a W':=by
 have lt:=h.lt;have hB:=h.hB;exact⟨h.low.grown hg h.low.size (fun k e=>by have:=Option.some.inj e;omega),(hg.block _ (lt_of_block h.rs) (fun e=>by have:=Option.some.inj e;omega)).trans h.rs,lt,hB,
  (hg.block _ (lt_of_block h.pk) (fun e=>by have:=Option.some.inj e;omega)).trans h.pk,hc,h.ps.grown hg (fun g i e=>by have:=h.pf g i e;omega),h.pc,h.pf⟩
theorem KcS.below(h:KcS w cb s B y P a W)(hb:Below W.heap.size W W'):KcS w cb s B y P a W':=h.call (h.cs.below hb) (q9cp hb _)
theorem KcS.draws(h:KcS w cb s B y P a W)(n:Nat):KcS w cb s B y P a (W.drewN n):=h.below (qnpu (Below.refl _ _) n)
theorem KcS.cell(h:KcS w cb s B y P a W)(j:Nat):W.cell? ⟨B,j,none⟩=(pkC P a)[j]? := cell_of_row _ _ j _ _ _ h.pk
theorem KcS.fr(h:KcS w cb s B y P a W)(j:Nat):W.frozen? ⟨B,j,none⟩=false:=frozen_of_row _ _ _ _ _ h.pk
theorem KcS.set(h:KcS w cb s B y P a W)(j:Nat)(u:Value)(he:(pkC P a).setIfInBounds j u=pkC P' a')(ps:PL W a'.ps P'.props)(pc:P'.props.length<=a'.pc)(pf:∀g i,a'.ps=some ⟨g,i,none⟩->B<g):KcS w cb s B y P' a' (W.setCell ⟨B,j,none⟩ u):=by
 have o:∀k,k≠B->(W.setCell ⟨B,j,none⟩ u).heap[k]?=W.heap[k]? := fun k hk=>heap_setCell_other W ⟨B,j,none⟩ k u hk;have lt:=h.lt;have hB:=h.hB;exact⟨h.low.setCell (by show _<=B;omega) u,(o _ (by omega)).trans h.rs,lt,hB,by have:=qlvy h.pk j u;rw[he] at this;exact this,h.cs.of_block (o _ (by omega)),
  ps.kept (q99v W B j u).size (fun g i e _=>o g (by have:=pf g i e;omega)),pc,pf⟩
theorem KcS.laid(low:Below w.heap.size w W)(rs:W.heap[w.heap.size]?=some (.cells pkZ 40 (0,0)))(lt:w.heap.size<cb)(cs:CsAt W cb s y){D:Array Value}(hD:pkC P adZ=D)(hp:P.props=[]):KcS w cb s W.heap.size y P adZ ((W.alloc (.cells pkZ 40)).setRow W.heap.size D):=by have hb:Below W.heap.size W ((W.alloc (.cells pkZ 40)).setRow W.heap.size D):=q8xz (qybm _) (Nat.le_refl _) D;refine⟨qxh2 low hb,(hb.block _ (lt_of_block rs)).trans rs,lt,cs.lt,by rw[hD];exact setRow_heap _ _ _ D _ _ (heap_alloc_new W _),cs.below hb,?_,by rw[hp];exact Nat.zero_le _,fun g i e=>(by cases e)⟩;rw[hp];exact PL.nil
end
end Go.Proofs.YtlhkgidoaggodaaGreatDoor
