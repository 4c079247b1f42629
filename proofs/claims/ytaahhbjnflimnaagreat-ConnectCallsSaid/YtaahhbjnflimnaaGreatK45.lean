/- The contract of prop.Read, as a law's walk wants it. Condition: the bytes are no more than an int says. -/
import Derived.BigQuiet
import Derived.Great.BuildSlice
import Derived.Laws.ResultCell
import Derived.Test.YtaahhbjnflimnaaGreatK44
import Derived.Test.YtaahhbjnflimnaaGreatK42
import Derived.Test.YtaahhbjnflimnaaGreatK27
import Derived.Test.YtaahhbjnflimnaaGreatK02
set_option maxRecDepth 100000
set_option maxHeartbeats 1000000
namespace Go.Proofs.YtaahhbjnflimnaaGreat
open Go.RowKit
theorem qjfk{kind:Int}{s:List UInt8}(h:(qflw kind s).2.2≠0):qflw kind s=([],0,(qflw kind s).2.2):=by
 unfold qflw at *
 repeat' split
 all_goals first | rfl | skip
 all_goals
  rename_i h1 h2 h3 h4
  rw[if_neg h1,if_neg h2,if_neg h3,if_neg h4] at h
  exact absurd rfl h
theorem q188(kind:Int)(s:ByteArray)(L:List Pr)(k F:Nat)(hk0:-9223372036854775808≤kind)(hk1:kind≤9223372036854775807)(hm:s.size≤9223372036854775807)(hq:qflw kind s.data.toList=(L,k,F))(W:World) :
 Calls Tryz.prog 143 #[.int .i64 kind,.string s] W fun e W'=>Below W.heap.size W W'∧∃A c,e = .returned (.tuple #[.slice A L.length c,.int .i64 (k:Nat),.int .i64 (F:Nat)])∧L.length≤c∧PL W' A L∧(∀p∈L,PrOk p)∧L.length≤1000∧∀g i,A=some ⟨g,i,none⟩→W.heap.size≤g:=by
 have:=q3kx kind s W hk0 hk1 hm
 rw[hq] at this
 refine this.mono fun e W' ⟨hb,ok,hl,v,he,ho⟩=>⟨hb,?_⟩
 obtain⟨A,c,rfl,hc,hP,hg⟩:=PL.owned ho rfl
 exact⟨A,c,he,hc,hP,ok,hl,hg⟩
def rdrV(cb:Nat)(v:Int):Value := .agg #[.pointer (some ⟨cb,0,none⟩),.int .i64 v]
section
variable{w W W':World}{cb:Nat}{s:ByteArray}{x:Cs}{v:Int}
theorem qkvc(w:World)(cb:Nat)(v:Int):(w.alloc (.cells #[.pointer (some ⟨cb,0,none⟩),.int .i64 v] 71)).heap[w.heap.size]? = some (.cells #[.pointer (some ⟨cb,0,none⟩),.int .i64 v] 71 (0,0)):=heap_alloc_new w _
theorem qr75(b:Bool)(f:Nat)(h:CsAt w cb s x) :
 Calls Tryz.prog 52 #[rdrV cb v,.bool b,.int .i64 (f:Nat)] w fun e w'=>e = .returned (.tuple #[])∧CsAt w' cb s (if b then x else x.fail f)∧w.grownBy w' (some cb):=by
 have G0:=Lib.hid (World.grownBy_alloc w (.cells #[.pointer (some ⟨cb,0,none⟩),.int .i64 v] 71) (some cb))
 have h0:=h.alloc (.cells #[.pointer (some ⟨cb,0,none⟩),.int .i64 v] 71)
 have FL:=Lib.hid (qazj f h0)
 have H0:=Lib.hid h0
 unfold rdrV
 clear h h0
 cases b with
 | true=>
  go_enter Tryz.func52,Tryz.ntmps52
  go_wp2_with fail
  go_end0
  exact⟨rfl,H0.out,G0.out⟩
 | false=>
  go_enter Tryz.func52,Tryz.ntmps52
  go_wp2_with fail
  refine(FL.out).mono ?_
  rintro e w2 ⟨rfl,hc,hg⟩
  have HC:=Lib.hid hc
  have HG:=Lib.hid (qo6d G0.out hg)
  clear hc hg
  go_wp2_with fail
  go_end0
  exact⟨rfl,HC.out,HG.out⟩
theorem q0ph(x:Cs)(n:Nat)(hn:n≤2):(x.num n).1 < 65536:=by
 unfold Cs.num
 have:=qn9h (x.take n).1
 have hl:(x.take n).1.length≤2:=by
  unfold Cs.take
  split
  ·simp
  ·split
   ·simp
   ·simp;omega
 have:256^(x.take n).1.length≤256^2:=Nat.pow_le_pow_right (by decide) hl
 omega
theorem qevs(hm:s.size≤9223372036854775807)(h:CsAt w cb s x) :
 Calls Tryz.prog 168 #[rdrV cb v] w fun e w'=>e = .returned (.int .i64 ((x.num 1).1:Nat))∧CsAt w' cb s (x.num 1).2∧w.grownBy w' (some cb):=by
 have G0:=Lib.hid (World.grownBy_alloc w (.cells #[.pointer (some ⟨cb,0,none⟩),.int .i64 v] 71) (some cb))
 have h0:=h.alloc (.cells #[.pointer (some ⟨cb,0,none⟩),.int .i64 v] 71)
 have NM:=q8yf 1 (by decide) hm h0
 have hlt:=q0ph x 1 (by decide)
 generalize x.num 1=z at *
 obtain⟨z1,z2⟩:=z
 have NM:=Lib.hid NM
 have hz0:(0:Int)≤z1:=by omega
 have hz:(z1:Int) < 65536:=by omega
 unfold rdrV
 clear h h0 hlt
 go_enter Tryz.func168,Tryz.ntmps168
 go_wp2_with fail
 refine(NM.out).mono ?_
 rintro e w2 ⟨rfl,hc,hg⟩
 have HC:=Lib.hid hc
 have HG:=Lib.hid (qo6d G0.out hg)
 clear hc hg
 go_wp2_with fail
 go_ret
 exact⟨rfl,HC.out,HG.out⟩
theorem qrso{w w'':World}{a:Nat}(h:∃j,w''=(w.drewN a).drewN j):∃n,w''=w.drewN n:=by
 obtain⟨j,rfl⟩:=h
 exact⟨a+j,by simp⟩
theorem q9lb(hm:s.size≤9223372036854775807)(h:CsAt w cb s x) :
 Calls Tryz.prog 207 #[rdrV cb v] w fun e w'=>e = .returned (.string (bs x.ahead))∧Below w.heap.size w w':=by
 have B0:=Lib.hid (qybm (w:=w) (.cells #[.pointer (some ⟨cb,0,none⟩),.int .i64 v] 71))
 have h0:=h.alloc (.cells #[.pointer (some ⟨cb,0,none⟩),.int .i64 v] 71)
 have LF:=Lib.hid (fun n=>qjtm hm (h0.draws n))
 have PK:=Lib.hid (fun n=>qitj hm (h0.draws n))
 have DR:∀a b:Nat,((w.alloc (.cells #[.pointer (some ⟨cb,0,none⟩),.int .i64 v] 71)).drewN a).drewN b=(w.alloc (.cells #[.pointer (some ⟨cb,0,none⟩),.int .i64 v] 71)).drewN (a+b):=fun a b=>by simp
 have DR:=Lib.hid DR
 unfold rdrV
 clear h h0
 go_enter Tryz.func207,Tryz.ntmps207
 go_wp2_with fail
 go_quiet (first
  | (go_at_call 53;exact(LF.out _).mono fun _ _ h=>⟨h.1,qrso h.2⟩)
  | (go_at_call 234;exact(PK.out _).mono fun _ _ h=>⟨h.1,qrso h.2⟩))
 go_wp2_with fail
 go_ret
 exact⟨rfl,qnpu B0.out _⟩
theorem qa2g(k f:Nat)(hk:k≤x.r.length)(hm:s.size≤9223372036854775807)(h:CsAt w cb s x) :
 Calls Tryz.prog 208 #[rdrV cb v,.int .i64 (k:Nat),.int .i64 (f:Nat)] w fun e w'=>e = .returned (.tuple #[])∧CsAt w' cb s (if x.e=0 then⟨x.r.drop k,f⟩ else x)∧w.grownBy w' (some cb):=by
 have G0:=Lib.hid (World.grownBy_alloc w (.cells #[.pointer (some ⟨cb,0,none⟩),.int .i64 v] 71) (some cb))
 have h0:=h.alloc (.cells #[.pointer (some ⟨cb,0,none⟩),.int .i64 v] 71)
 have TK:=Lib.hid (qgtr k hm h0)
 have e1:((x.take k).2.fail f)=if x.e=0 then⟨x.r.drop k,f⟩ else x:=by
  unfold Cs.take Cs.fail
  by_cases he:x.e=0
  ·simp[he,show ¬x.r.length < k by omega]
  ·simp[he]
 rw[←e1]
 have BX:=Lib.hid (qkvc w cb v)
 have hne:w.heap.size≠cb:=Nat.ne_of_gt h.lt
 unfold rdrV
 clear h h0 e1 hk
 go_enter Tryz.func208,Tryz.ntmps208
 go_wp2_with fail
 refine(TK.out).mono ?_
 rintro e w2 ⟨rfl,hc,hg⟩
 have hb2:=(hg.block w.heap.size (by simp) (fun e=>hne (Option.some.inj e))).trans BX.out
 have c0:w2.cell? ⟨w.heap.size,0,none⟩=some (.pointer (some ⟨cb,0,none⟩)):=cell_of_row _ _ 0 _ _ _ hb2
 have FL:=Lib.hid (qazj f hc)
 have HG:=Lib.hid (qo6d G0.out hg)
 clear hc hg hb2
 go_wp2_with fail
 refine(FL.out).mono ?_
 rintro e w3 ⟨rfl,hc,hg⟩
 have HC:=Lib.hid hc
 have HG2:=Lib.hid (qo6d HG.out hg)
 clear hc hg c0
 go_wp2_with fail
 go_end0
 exact⟨rfl,HC.out,HG2.out⟩
theorem qe36:rdB []=([],0,3):=by decide
theorem qg2y:rdT []=([],0,3):=by decide
theorem qgsz(hm:s.size≤9223372036854775807)(h:CsAt w cb s x) :
 Calls Tryz.prog 210 #[rdrV cb v,.func (.func 141) #[] #[]] w fun e w'=>e = .returned (.string (bs x.text.1))∧CsAt w' cb s x.text.2∧w.grownBy w' (some cb):=by
 have G0:=Lib.hid (World.grownBy_alloc w (.cells #[.pointer (some ⟨cb,0,none⟩),.int .i64 v] 71) (some cb))
 have h0:=h.alloc (.cells #[.pointer (some ⟨cb,0,none⟩),.int .i64 v] 71)
 have AH:=Lib.hid (q9lb (v:=v) hm h0)
 have hle:x.ahead.length≤x.r.length:=by unfold Cs.ahead;split;exact Nat.le_refl _;exact Nat.zero_le _
 have RD:=fun W=>q2z4 (bs x.ahead) W (by rw[q5zk];have:=h.len;omega)
 rw[qkd1] at RD
 have hk:=(qslt x.ahead).1
 have hk2:(rdT x.ahead).2.1≤x.r.length:=Nat.le_trans hk hle
 have e1:x.text=((rdT x.ahead).1,if x.e=0 then⟨x.r.drop (rdT x.ahead).2.1,(rdT x.ahead).2.2⟩ else x):=by
  unfold Cs.text Cs.ahead
  by_cases he:x.e=0
  ·simp[he]
  ·simp[he,qg2y]
 rw[e1]
 generalize rdT x.ahead=z at *
 obtain⟨t,k,f⟩:=z
 have RD:=Lib.hid RD
 have PS:=fun W (h:CsAt W cb s x)=>qa2g (v:=v) k f hk2 hm h
 generalize (if x.e=0 then(⟨x.r.drop k,f⟩:Cs) else x)=y at *
 have PS:=Lib.hid PS
 have H0:=Lib.hid h0
 have BX:=Lib.hid (qkvc w cb v)
 have hne:w.heap.size≠cb:=Nat.ne_of_gt h.lt
 unfold rdrV at *
 unfold ok3 at RD
 clear h h0 hle hk hk2 e1
 go_enter Tryz.func210,Tryz.ntmps210
 go_wp2_with fail
 refine(AH.out).mono ?_
 rintro e w2 ⟨rfl,hb⟩
 have H2:=Lib.hid (H0.out.below hb)
 have G2:=Lib.hid (qo6d G0.out (q9cp hb (some cb)))
 have X2:=Lib.hid ((hb.block _ (lt_of_block BX.out)).trans BX.out)
 clear hb
 go_wp2_with fail
 refine(RD.out _).mono ?_
 rintro e w3 ⟨rfl,hb⟩
 have H3:=Lib.hid (H2.out.below hb)
 have G3:=Lib.hid (qo6d G2.out (q9cp hb (some cb)))
 have X3:=(hb.block _ (lt_of_block X2.out)).trans X2.out
 have c0:w3.cell? ⟨w.heap.size,0,none⟩=some (.pointer (some ⟨cb,0,none⟩)):=cell_of_row _ _ 0 _ _ _ X3
 have c1:w3.cell? ⟨w.heap.size,1,none⟩=some (.int .i64 v):=cell_of_row _ _ 1 _ _ _ X3
 clear hb X3
 go_wp2_with fail
 refine(PS.out _ H3.out).mono ?_
 rintro e w4 ⟨rfl,hc,hg⟩
 have H4:=Lib.hid hc
 have G4:=Lib.hid (qo6d G3.out hg)
 clear hc hg c0 c1
 go_wp2_with fail
 go_ret
 exact⟨rfl,H4.out,G4.out⟩
theorem q444(hm:s.size≤9223372036854775807)(h:CsAt w cb s x) :
 Calls Tryz.prog 210 #[rdrV cb v,.func (.func 197) #[] #[]] w fun e w'=>e = .returned (.string (bs x.bin.1))∧CsAt w' cb s x.bin.2∧w.grownBy w' (some cb):=by
 have G0:=Lib.hid (World.grownBy_alloc w (.cells #[.pointer (some ⟨cb,0,none⟩),.int .i64 v] 71) (some cb))
 have h0:=h.alloc (.cells #[.pointer (some ⟨cb,0,none⟩),.int .i64 v] 71)
 have AH:=Lib.hid (q9lb (v:=v) hm h0)
 have hle:x.ahead.length≤x.r.length:=by unfold Cs.ahead;split;exact Nat.le_refl _;exact Nat.zero_le _
 have RD:=fun W=>qgvs (bs x.ahead) W (by rw[q5zk];have:=h.len;omega)
 rw[qkd1] at RD
 have hk:=(q3gm x.ahead).1
 have hk2:(rdB x.ahead).2.1≤x.r.length:=Nat.le_trans hk hle
 have e1:x.bin=((rdB x.ahead).1,if x.e=0 then⟨x.r.drop (rdB x.ahead).2.1,(rdB x.ahead).2.2⟩ else x):=by
  unfold Cs.bin Cs.ahead
  by_cases he:x.e=0
  ·simp[he]
  ·simp[he,qe36]
 rw[e1]
 generalize rdB x.ahead=z at *
 obtain⟨t,k,f⟩:=z
 have RD:=Lib.hid RD
 have PS:=fun W (h:CsAt W cb s x)=>qa2g (v:=v) k f hk2 hm h
 generalize (if x.e=0 then(⟨x.r.drop k,f⟩:Cs) else x)=y at *
 have PS:=Lib.hid PS
 have H0:=Lib.hid h0
 have BX:=Lib.hid (qkvc w cb v)
 have hne:w.heap.size≠cb:=Nat.ne_of_gt h.lt
 unfold rdrV at *
 unfold ok3 at RD
 clear h h0 hle hk hk2 e1
 go_enter Tryz.func210,Tryz.ntmps210
 go_wp2_with fail
 refine(AH.out).mono ?_
 rintro e w2 ⟨rfl,hb⟩
 have H2:=Lib.hid (H0.out.below hb)
 have G2:=Lib.hid (qo6d G0.out (q9cp hb (some cb)))
 have X2:=Lib.hid ((hb.block _ (lt_of_block BX.out)).trans BX.out)
 clear hb
 go_wp2_with fail
 refine(RD.out _).mono ?_
 rintro e w3 ⟨rfl,hb⟩
 have H3:=Lib.hid (H2.out.below hb)
 have G3:=Lib.hid (qo6d G2.out (q9cp hb (some cb)))
 have X3:=(hb.block _ (lt_of_block X2.out)).trans X2.out
 have c0:w3.cell? ⟨w.heap.size,0,none⟩=some (.pointer (some ⟨cb,0,none⟩)):=cell_of_row _ _ 0 _ _ _ X3
 have c1:w3.cell? ⟨w.heap.size,1,none⟩=some (.int .i64 v):=cell_of_row _ _ 1 _ _ _ X3
 clear hb X3
 go_wp2_with fail
 refine(PS.out _ H3.out).mono ?_
 rintro e w4 ⟨rfl,hc,hg⟩
 have H4:=Lib.hid hc
 have G4:=Lib.hid (qo6d G3.out hg)
 clear hc hg c0 c1
 go_wp2_with fail
 go_ret
 exact⟨rfl,H4.out,G4.out⟩
theorem qt5a(hm:s.size≤9223372036854775807)(h:CsAt w cb s x) :
 Calls Tryz.prog 172 #[rdrV cb v] w fun e w'=>e = .returned (.string (bs x.text.1))∧CsAt w' cb s x.text.2∧w.grownBy w' (some cb):=by
 have G0:=Lib.hid (World.grownBy_alloc w (.cells #[.pointer (some ⟨cb,0,none⟩),.int .i64 v] 71) (some cb))
 have h0:=h.alloc (.cells #[.pointer (some ⟨cb,0,none⟩),.int .i64 v] 71)
 have PI:=Lib.hid (qgsz (v:=v) hm h0)
 unfold rdrV at *
 clear h h0
 go_enter Tryz.func172,Tryz.ntmps172
 go_wp2_with fail
 refine(PI.out).mono ?_
 rintro e w2 ⟨rfl,hc,hg⟩
 have H2:=Lib.hid hc
 have G2:=Lib.hid (qo6d G0.out hg)
 clear hc hg
 go_wp2_with fail
 go_ret
 exact⟨rfl,H2.out,G2.out⟩
theorem q932(hm:s.size≤9223372036854775807)(h:CsAt w cb s x) :
 Calls Tryz.prog 173 #[rdrV cb v] w fun e w'=>e = .returned (.string (bs x.bin.1))∧CsAt w' cb s x.bin.2∧w.grownBy w' (some cb):=by
 have G0:=Lib.hid (World.grownBy_alloc w (.cells #[.pointer (some ⟨cb,0,none⟩),.int .i64 v] 71) (some cb))
 have h0:=h.alloc (.cells #[.pointer (some ⟨cb,0,none⟩),.int .i64 v] 71)
 have PI:=Lib.hid (q444 (v:=v) hm h0)
 unfold rdrV at *
 clear h h0
 go_enter Tryz.func173,Tryz.ntmps173
 go_wp2_with fail
 refine(PI.out).mono ?_
 rintro e w2 ⟨rfl,hc,hg⟩
 have H2:=Lib.hid hc
 have G2:=Lib.hid (qo6d G0.out hg)
 clear hc hg
 go_wp2_with fail
 go_ret
 exact⟨rfl,H2.out,G2.out⟩
end
theorem qjdx(kind:Int):qflw kind []=([],0,3):=rfl
section
variable{w W W':World}{cb:Nat}{s:ByteArray}{x:Cs}{v:Int}
theorem q5sz(kind:Int)(hk0:-9223372036854775808≤kind)(hk1:kind≤9223372036854775807)(hm:s.size≤9223372036854775807)(h:CsAt w cb s x) :
 Calls Tryz.prog 169 #[rdrV cb v,.int .i64 kind] w fun e w'=>(∃A c,e = .returned (.slice A (x.props v kind).1.length c)∧(x.props v kind).1.length≤c∧PL w' A (x.props v kind).1∧∀g i,A=some ⟨g,i,none⟩→w.heap.size < g)∧(∀p∈(x.props v kind).1,PrOk p)∧(x.props v kind).1.length≤1000∧CsAt w' cb s (x.props v kind).2∧w.grownBy w' (some cb):=by
 have G0:=Lib.hid (World.grownBy_alloc w (.cells #[.pointer (some ⟨cb,0,none⟩),.int .i64 v] 71) (some cb))
 have h0:=h.alloc (.cells #[.pointer (some ⟨cb,0,none⟩),.int .i64 v] 71)
 have H0:=Lib.hid h0
 by_cases h5:v=5
 ·subst h5
  have AH:=Lib.hid (q9lb (v:=5) hm h0)
  have hle:x.ahead.length≤x.r.length:=by unfold Cs.ahead;split;exact Nat.le_refl _;exact Nat.zero_le _
  obtain⟨L,k,F,hq⟩:∃L k F,qflw kind x.ahead=(L,k,F):=⟨_,_,_,rfl⟩
  have RD:=fun W=>q188 kind (bs x.ahead) L k F hk0 hk1 (by rw[q5zk];have:=h.len;omega) hq W
  have hk2:k≤x.r.length:=by
   by_cases hF:F=0
   ·subst hF
    have:=(qugf hq).2.1
    omega
   ·have:=qjfk (kind:=kind) (s:=x.ahead) (by rw[hq];exact hF)
    rw[hq] at this
    have:k=0:=congrArg (fun z=>z.2.1) this
    omega
  have e1:x.props 5 kind=(L,if x.e=0 then⟨x.r.drop k,F⟩ else x):=by
   unfold Cs.props
   by_cases he:x.e=0
   ·unfold Cs.ahead at hq
    rw[if_pos he] at hq
    simp[he,hq]
   ·unfold Cs.ahead at hq
    rw[if_neg he,qjdx] at hq
    simp[he,←(Prod.mk.inj hq).1]
  rw[e1]
  have RD:=Lib.hid RD
  have PS:=fun W (h:CsAt W cb s x)=>qa2g (v:=5) k F hk2 hm h
  generalize (if x.e=0 then(⟨x.r.drop k,F⟩:Cs) else x)=y at *
  have PS:=Lib.hid PS
  have BX:=Lib.hid (qkvc w cb 5)
  have CB:=Lib.hid h.lt
  unfold rdrV at *
  clear h h0 hle hk2 e1 hq
  go_enter Tryz.func169,Tryz.ntmps169
  go_wp2_with fail
  refine(AH.out).mono ?_
  rintro e w2 ⟨rfl,hb⟩
  have Z2:=Lib.hid (show w.heap.size < w2.heap.size from Nat.lt_of_lt_of_le (lt_of_block BX.out) hb.size)
  have H2:=Lib.hid (H0.out.below hb)
  have G2:=Lib.hid (qo6d G0.out (q9cp hb (some cb)))
  have X2:=Lib.hid ((hb.block _ (lt_of_block BX.out)).trans BX.out)
  clear hb
  go_wp2_with fail
  refine(RD.out _).mono ?_
  rintro e w3 ⟨hb,A,c,rfl,hc,hP,hO,hL,hA⟩
  have H3:=Lib.hid (H2.out.below hb)
  have G3:=Lib.hid (qo6d G2.out (q9cp hb (some cb)))
  have P3:=Lib.hid hP
  have Q3:=Lib.hid (And.intro hc (And.intro hO hL))
  have A3:=Lib.hid (fun g i (e:A=some ⟨g,i,none⟩)=>Nat.lt_of_lt_of_le Z2.out (hA g i e))
  have X3:=(hb.block _ (lt_of_block X2.out)).trans X2.out
  have c0:w3.cell? ⟨w.heap.size,0,none⟩=some (.pointer (some ⟨cb,0,none⟩)):=cell_of_row _ _ 0 _ _ _ X3
  have c1:w3.cell? ⟨w.heap.size,1,none⟩=some (.int .i64 5):=cell_of_row _ _ 1 _ _ _ X3
  clear hb X3 hc hP hO hL hA
  go_wp2_with fail
  refine(PS.out _ H3.out).mono ?_
  rintro e w4 ⟨rfl,hc,hg⟩
  have H4:=Lib.hid hc
  have G4:=Lib.hid (qo6d G3.out hg)
  have P4:=Lib.hid (P3.out.grown hg (fun g i e=>by have:=A3.out g i e;have:=CB.out;omega))
  clear hc hg c0 c1
  go_wp2_with fail
  go_ret
  exact⟨⟨A,c,rfl,Q3.out.1,P4.out,A3.out⟩,Q3.out.2.1,Q3.out.2.2,H4.out,G4.out⟩
 ·have e1:x.props v kind=([],x):=by unfold Cs.props;rw[if_pos (.inr h5)]
  rw[e1]
  have h5':(v==5)=false:=beq_eq_false_iff_ne.2 h5
  have h5n:(v != 5)=true:=by rw[show(v != 5)=!(v==5) from rfl,h5'];rfl
  unfold rdrV
  clear h5 h5' h h0 e1
  go_enter Tryz.func169,Tryz.ntmps169
  go_wp2_with fail
  go_ret
  exact⟨⟨none,0,rfl,Nat.zero_le _,fun e=>absurd rfl e,fun g i e=>by cases e⟩,fun p hp=>(nomatch hp),Nat.zero_le _,H0.out,G0.out⟩
def qvmk(c u a h r:Bool)(q:Int):Pk:={Pk.zero with kind:=1,clean:=c,hasUser:=u,hasPass:=a,hasWill:=h,wQos:=q,wRetain:=r}
def q8ku(f:Nat):Pk:=qvmk (f / 2%2==1) (f / 128%2==1) (f / 64%2==1) (f / 4%2==1) (f / 32%2==1) (f / 8%4:Nat)
theorem qmn0:∀f:Nat,f < 256→(bits .and .i64 (f:Int) 2 != 0)=(f / 2%2==1)∧(bits .and .i64 (f:Int) 128 != 0)=(f / 128%2==1)∧(bits .and .i64 (f:Int) 64 != 0)=(f / 64%2==1)∧(bits .and .i64 (f:Int) 4 != 0)=(f / 4%2==1)∧(bits .and .i64 (f:Int) 32 != 0)=(f / 32%2==1)∧
 bits .and .i64 ((f:Int) / 8) 3=((f / 8%4:Nat):Int)∧(bits .and .i64 (f:Int) 1==0)=(f%2==0):=by decide+kernel
theorem qmea(f:Nat)(hf:f < 256)(w:World) :
 Calls Tryz.prog 209 #[.int .i64 (f:Nat)] w fun e w'=>e = .returned (.agg (pkC (q8ku f) adZ))∧Below w.heap.size w w':=by
 obtain⟨b2,b128,b64,b4,b32,bq,_⟩:=qmn0 f hf
 have f0:(0:Int)≤f:=by omega
 have f1:(f:Int) < 256:=by omega
 unfold q8ku
 generalize (f / 2%2==1)=c at *
 generalize (f / 128%2==1)=u at *
 generalize (f / 64%2==1)=a at *
 generalize (f / 4%2==1)=h at *
 generalize (f / 32%2==1)=r at *
 generalize ((f / 8%4:Nat):Int)=q at *
 obtain⟨D,hD⟩:∃D,pkC (qvmk c u a h r q) adZ=D:=⟨_,rfl⟩
 have hD1:=qwmp (qvmk c u a h r q) adZ
 have hD2:=qmz0 (qvmk c u a h r q) adZ
 rw[hD] at hD1 hD2 ⊢
 have HD:=Lib.hid hD
 have HD1:=Lib.hid hD1
 have HD2:=Lib.hid hD2
 have HZ:=Lib.hid qbwp
 have hzv:=qrai
 have hne:¬pkZ=#[]:=by intro h;have:=qbwp;rw[h] at this;cases this
 have LO:=Lib.hid (q8xz (B:=w.heap.size) (k:=w.heap.size) (qybm (w:=w) (.cells pkZ 28)) (Nat.le_refl _) D)
 clear hD hD1 hD2 hf
 go_enter Tryz.func209,Tryz.ntmps209
 go_wp2_with (first
  | (refine wpList_buildTo rfl 28 _ rfl (some 22) rfl D (by rw[←HD.out];kernel_rfl) ?_)
  | (refine wpList_store_row rfl _ _ _ rfl w.heap.size D rfl rfl 28 _ (heap_alloc_new w _) (by rw[HD1.out];exact q5nr) (by rw[HZ.out,HD1.out]) HD2.out ?_))
 exact q7wi (cs:=D) rfl rfl rfl Tryz.underlying28 rfl (by rw[HD1.out];exact q5nr) (setRow_heap _ _ _ _ _ _ (heap_alloc_new w _)) ⟨rfl,LO.out⟩
end
theorem q7jb(d:Bool)(r:List UInt8):((rdB r).2.2≠0∧q91e d r=([],0,5))∨((rdB r).2.2=0∧d=false∧qecx (rdB r).1=false∧q91e d r=([],0,6))∨((rdB r).2.2=0∧(d=true∨(d=false∧qecx (rdB r).1=true))∧q91e d r=((rdB r).1,(rdB r).2.1,0)):=by
 unfold q91e
 by_cases h:(rdB r).2.2=0
 ·rw[if_neg (by simp[h])]
  cases d<;>cases hv:qecx (rdB r).1<;>simp[h]
 ·exact .inl ⟨h,by rw[if_pos h]⟩
theorem qs5r(s:ByteArray)(at' sh:Nat)(w:World)(hs:s.size≤70000)(ha:at'≤s.size)(_hsh:sh≤7) :
 Calls Tryz.prog 212 #[.string s,.int .i64 at',.int .i64 sh] w fun e w'=>e = .returned (.tuple #[.string (bs (q91e (sh==6) (s.data.toList.drop at')).1),.int .i64 (if (q91e (sh==6) (s.data.toList.drop at')).2.2=0 then at'+(q91e (sh==6) (s.data.toList.drop at')).2.1 else 0:Nat),.int .i64 ((q91e (sh==6) (s.data.toList.drop at')).2.2:Nat)])∧w'=w:=by
 have RB:=qra5 (s.extract at' s.size) w (by rw[q4ad,qh3u,List.length_drop,←q4ad];omega)
 rw[qh3u] at RB
 have hle:=q3gm (s.data.toList.drop at')
 rw[List.length_drop,←q4ad] at hle
 have q1:(at':Int)≤(s.size:Int):=by omega
 have q2:(0:Int)≤(at':Int):=by omega
 rcases q7jb (sh==6) (s.data.toList.drop at') with ⟨h1,h2⟩ | ⟨h1,h2,h3,h4⟩ | ⟨h1,h2,h3⟩
 ·rw[h2]
  unfold ok3 at RB
  generalize rdB (s.data.toList.drop at')=q at *
  obtain⟨t,k,z⟩:=q
  have n0:(((z:Nat):Int) != 0)=true:=by rw[bne_iff_ne];simp at h1;omega
  have RB:=Lib.hid RB
  simp only[show ¬(5:Nat)=0 by decide,if_false]
  clear h1 h2 hle hs ha _hsh
  go_enter Tryz.func212,Tryz.ntmps212
  go_wp2_with fail
  refine(RB.out).mono ?_
  rintro e w1 ⟨rfl,rfl⟩
  go_wp2_with fail
  go_ret3
  exact⟨rfl,rfl⟩
 ·rw[h4]
  have n6:(((sh:Nat):Int) != 6)=true:=by rw[bne_iff_ne];simp at h2;omega
  unfold ok3 at RB
  rw[h1] at RB
  have VA:=qcip (bs (rdB (s.data.toList.drop at')).1)
  rw[qkd1,h3] at VA
  generalize rdB (s.data.toList.drop at')=q at *
  obtain⟨t,k,z⟩:=q
  have RB:=Lib.hid RB
  have VA:=Lib.hid VA
  simp only[show ¬(6:Nat)=0 by decide,if_false]
  clear h1 h2 h3 h4 hle hs ha _hsh
  go_enter Tryz.func212,Tryz.ntmps212
  go_wp2_with fail
  refine(RB.out).mono ?_
  rintro e w1 ⟨rfl,rfl⟩
  go_wp2_with fail
  refine(VA.out _).mono ?_
  rintro e w1 ⟨rfl,rfl⟩
  go_wp2_with fail
  go_ret3
  exact⟨rfl,rfl⟩
 ·rw[h3]
  unfold ok3 at RB
  rw[h1] at RB
  have VA:=qcip (bs (rdB (s.data.toList.drop at')).1)
  rw[qkd1] at VA
  generalize hq:rdB (s.data.toList.drop at')=q at *
  obtain⟨t,k,z⟩:=q
  obtain⟨y,hy⟩:∃y,at'+k=y:=⟨_,rfl⟩
  have q3:IntKind.i64.wrap ((at':Int)+(k:Int))=(y:Int):=by simp only[IntKind.wrap_i64];simp at hle;omega
  have RB:=Lib.hid RB
  simp only[if_true,hy]
  rcases h2 with h2 | ⟨h2,hv⟩
  ·have n6:(((sh:Nat):Int) != 6)=false:=by simp at h2;rw[h2];rfl
   clear h1 h2 h3 hle hs ha _hsh hq hy VA
   go_enter Tryz.func212,Tryz.ntmps212
   go_wp2_with fail
   refine(RB.out).mono ?_
   rintro e w1 ⟨rfl,rfl⟩
   go_wp2_with fail
   go_ret3
   exact⟨rfl,rfl⟩
  ·have n6:(((sh:Nat):Int) != 6)=true:=by rw[bne_iff_ne];simp at h2;omega
   rw[hv] at VA
   have VA:=Lib.hid VA
   clear h1 h2 h3 hle hs ha _hsh hq hy hv
   go_enter Tryz.func212,Tryz.ntmps212
   go_wp2_with fail
   refine(RB.out).mono ?_
   rintro e w1 ⟨rfl,rfl⟩
   go_wp2_with fail
   refine(VA.out _).mono ?_
   rintro e w1 ⟨rfl,rfl⟩
   go_wp2_with fail
   go_ret3
   exact⟨rfl,rfl⟩
end Go.Proofs.YtaahhbjnflimnaaGreat
