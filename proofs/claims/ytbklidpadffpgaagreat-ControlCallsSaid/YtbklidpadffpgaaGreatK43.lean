/- The contracts of prop's cursor: what reads a value of each shape. Condition: the bytes are no more than an int says. -/
import Derived.Test.YtbklidpadffpgaaGreatK39
import Derived.Test.YtbklidpadffpgaaGreatK42
import Derived.Test.YtbklidpadffpgaaGreatK19
import Derived.Test.YtbklidpadffpgaaGreatK41
import Derived.Test.YtbklidpadffpgaaGreatK10
import Derived.Test.YtbklidpadffpgaaGreatK18
import Derived.Test.YtbklidpadffpgaaGreatK33
set_option maxHeartbeats 4000000
set_option maxRecDepth 100000
namespace Go.Proofs.YtbklidpadffpgaaGreat
open Go.RowKit
def q585:List (Int×Value):=[(7,.func (.func 147) #[] #[]),(6,.func (.func 146) #[] #[]),(5,.func (.func 145) #[] #[]),(4,.func (.func 144) #[] #[]),(3,.func (.func 143) #[] #[]),(2,.func (.func 142) #[] #[]),(1,.func (.func 141) #[] #[])]
def qp0k(w:World)(b:Nat):Prop:=qmfc Tryz.prog 3 w b .nilFunc q585
theorem qhy7(w:World):Calls Tryz.prog 116 #[] w fun e w'=>e = .returned (.map (some w.heap.size))∧qp0k w' w.heap.size∧Below w.heap.size w w':=by
 have hmm:=@run_makeMap Tryz.prog
 have hG:MapG Tryz.prog 3 w (w.alloc (.map #[] 0)) w.heap.size .nilFunc []:=⟨qmfc.made _ _ _ _,(Below.refl _ _).alloc (Nat.le_refl _) _,Nat.le_refl _⟩
 go_enter Tryz.func116,Tryz.ntmps116
 go_wp2_with (refine q32q rfl _ _ _ 162 rfl 3 179 Tryz.underlying3 Tryz.underlying162 _ _ _ rfl hG (by simp[maxLen]) _ _ rfl rfl (by decide) ?_;clear hG;intro w1 hG)
 go_ret
 exact⟨rfl,hG.1,hG.2.1⟩
theorem qawq(W:World):(zeroValue 179).run Tryz.prog W = .ok .nilFunc W:=by kernel_rfl
theorem qp0k.look{w:World}{b:Nat}(h:qp0k w b)(s:Int)(h0:-9223372036854775808≤s)(h1:s≤9223372036854775807) :
 (Instr.lookup 162 (.map (some b)) (.int .i64 s) false).run Tryz.prog w = .ok (q1n3 .nilFunc q585 s) w:=
 qmfc.look h Tryz.underlying3 Tryz.underlying162 (qawq w) (qs52 h0 h1)
def curV(cb:Nat):Value := .agg #[.pointer (some ⟨cb,0,none⟩)]
def RdS(cb:Nat)(s:ByteArray)(i:Nat)(id:Int)(W:World)(e:Ending)(W':World):Prop:=
 ∃(p:Pr) (i' e':Nat),e = .returned (qbhk p)∧Cur W' cb s i' (e':Nat)∧W.grownBy W' (some cb)∧i'≤s.size∧
  (qij7 id (s.data.toList.drop i)).2.2=(if e'=3 then 5 else e')∧
  (e'=0→i'=i+(qij7 id (s.data.toList.drop i)).2.1∧qij7 id (s.data.toList.drop i)=(⟨id,p.n,p.text,p.value⟩,i' - i,0)∧p.n < 4294967296∧p.text.length≤65535∧p.value.length≤65535)
section
variable{w:World}{cb i:Nat}{s:ByteArray}
theorem Cur.alloc{e:Int}(h:Cur w cb s i e)(o:Obj):Cur (w.alloc o) cb s i e:=h.of_block (heap_alloc_old _ _ h.lt)
theorem qy0t(k:Nat)(f:Int)(hc:Cur w cb s i 0)(hi:i+k≤s.size)(hm:s.size≤9223372036854775807) :
 Calls Tryz.prog 161 #[curV cb,.int .i64 k,.int .i64 f] w fun e' w'=>e' = .returned (.tuple #[])∧Cur w' cb s (i+k) f∧w.grownBy w' (some cb):=by
 have hc1:=hc.alloc (.cells #[.pointer (some ⟨cb,0,none⟩)] 161)
 have TK:=Lib.hid (qpai k hc1 hi hm)
 have hne:cb≠w.heap.size:=Nat.ne_of_lt hc.lt
 have hb0:(w.alloc (.cells #[.pointer (some ⟨cb,0,none⟩)] 161)).heap[w.heap.size]? = some (.cells #[.pointer (some ⟨cb,0,none⟩)] 161 (0,0)):=heap_alloc_new w _
 have G0:=Lib.hid (World.grownBy_alloc w (.cells #[.pointer (some ⟨cb,0,none⟩)] 161) (some cb))
 have HB0:=Lib.hid hb0
 have SZ:=Lib.hid (World.size_alloc w (.cells #[.pointer (some ⟨cb,0,none⟩)] 161))
 unfold curV
 clear hc1 hi hb0
 go_enter Tryz.func161,Tryz.ntmps161
 go_wp2_with fail
 refine(TK.out).mono ?_
 rintro e w2 ⟨rfl,hc2,hg2⟩
 have hb2:=(hg2.block w.heap.size (by rw[SZ.out];omega) (fun e=>hne (Option.some.inj e).symm)).trans HB0.out
 have c0:w2.cell? ⟨w.heap.size,0,none⟩=some (.pointer (some ⟨cb,0,none⟩)):=cell_of_row _ _ _ _ _ _ hb2
 have FL:=Lib.hid (qxdm f hc2)
 have G2:=Lib.hid (qo6d G0.out hg2)
 clear hb2 hc2 hg2 TK
 go_wp2_with fail
 refine(FL.out).mono ?_
 rintro e w3 ⟨rfl,hc3,hg3⟩
 have HC3:=Lib.hid hc3
 have G3:=Lib.hid (qo6d G2.out hg3)
 clear hc3 hg3 c0
 go_wp2_with fail
 go_end0
 exact⟨rfl,HC3.out,G3.out⟩
theorem qzcj(k:Nat)(f:Int){e:Int}(hc:Cur w cb s i e)(he:(e==0)=false) :
 Calls Tryz.prog 161 #[curV cb,.int .i64 k,.int .i64 f] w fun e' w'=>e' = .returned (.tuple #[])∧Below w.heap.size w w':=by
 have hc1:=hc.alloc (.cells #[.pointer (some ⟨cb,0,none⟩)] 161)
 have TK:=Lib.hid (q95z (k:Int) hc1 he)
 have FL:=Lib.hid (fail_no f hc1 he)
 unfold curV
 clear hc1
 have B1:=Lib.hid (show Below w.heap.size w (w.alloc (.cells #[.pointer (some ⟨cb,0,none⟩)] 161)) from(Below.refl _ _).alloc (Nat.le_refl _) _)
 go_enter Tryz.func161,Tryz.ntmps161
 go_wp2_with fail
 refine(TK.out).mono ?_
 rintro e w2 ⟨rfl,rfl⟩
 go_wp2_with fail
 refine(FL.out).mono ?_
 rintro e w3 ⟨rfl,rfl⟩
 go_wp2_with fail
 go_end0
 exact⟨rfl,B1.out⟩
end
theorem qelx(s:ByteArray)(i c:Nat)(_h:i+c≤s.size)(hc:c≤8):qf3l (s.extract i (i+c))=num ((s.data.toList.drop i).take c):=by
 have e:(s.extract i (i+c)).data.toList=(s.data.toList.drop i).take c:=by simp[List.extract_eq_take_drop]
 have e2:(s.extract i (i+c)).size≤8:=by rw[q4ad,e,List.length_take];omega
 unfold qf3l
 rw[e,show(s.extract i (i+c)).size - 8=0 by omega];rfl
def RdW(w W:World)(cb:Nat):Prop:=
 w.grownBy W (some cb)∧W.heap[w.heap.size]? = some (.cells #[.pointer (some ⟨cb,0,none⟩)] 161 (0,0))∧W.heap[w.heap.size+1]? = some (.cells #[.int .i64 0,.int .u32 0,.string ⟨#[]⟩,.string ⟨#[]⟩] 25 (0,0))∧cb < w.heap.size∧w.heap.size+2≤W.heap.size
section
variable{w W W':World}{cb:Nat}
theorem RdW.made(h:cb < w.heap.size):RdW w ((w.alloc (.cells #[.pointer (some ⟨cb,0,none⟩)] 161)).alloc (.cells #[.int .i64 0,.int .u32 0,.string ⟨#[]⟩,.string ⟨#[]⟩] 25)) cb:=by
 refine⟨qo6d (World.grownBy_alloc _ _ _) (World.grownBy_alloc _ _ _),(heap_alloc_old _ _ (by simp)).trans (heap_alloc_new w _),?_,h,by simp⟩
 have:=heap_alloc_new (w.alloc (.cells #[.pointer (some ⟨cb,0,none⟩)] 161)) (.cells #[.int .i64 0,.int .u32 0,.string ⟨#[]⟩,.string ⟨#[]⟩] 25)
 rwa [World.size_alloc] at this
theorem RdW.step(h:RdW w W cb)(hg:W.grownBy W' (some cb)):RdW w W' cb:=by
 obtain⟨h1,h2,h3,h4,h5⟩:=h
 exact⟨qo6d h1 hg,(hg.block _ (by omega) (fun e=>by have:=Option.some.inj e;omega)).trans h2,(hg.block _ (by omega) (fun e=>by have:=Option.some.inj e;omega)).trans h3,h4,Nat.le_trans h5 hg.size⟩
theorem RdW.c0(h:RdW w W cb):W.cell? ⟨w.heap.size,0,none⟩=some (.pointer (some ⟨cb,0,none⟩)):=cell_of_row _ _ _ _ _ _ h.2.1
theorem RdW.fr(h:RdW w W cb)(j:Nat):W.frozen? ⟨w.heap.size+1,j,none⟩=false:=by have h1:=h.2.2.1;simp[World.frozen?,h1]
theorem RdW.r(h:RdW w W cb)(j:Nat):W.cell? ⟨w.heap.size+1,j,none⟩=(#[.int .i64 0,.int .u32 0,.string ⟨#[]⟩,.string ⟨#[]⟩]:Array Value)[j]? := cell_of_row _ _ _ _ _ _ h.2.2.1
end
def set4(W:World)(B:Nat)(a b c d:Value):World:=(((W.setCell ⟨B,0,none⟩ a).setCell ⟨B,1,none⟩ b).setCell ⟨B,2,none⟩ c).setCell ⟨B,3,none⟩ d
theorem qgwu{W:World}{B:Nat}{t:TypeId}{x0 x1 x2 x3:Value}(h:W.heap[B]? = some (.cells #[x0,x1,x2,x3] t (0,0)))(a b c d:Value):(set4 W B a b c d).heap[B]? = some (.cells #[a,b,c,d] t (0,0)):=by
 have h1:=qlvy h 0 a
 have h2:=qlvy h1 1 b
 have h3:=qlvy h2 2 c
 exact qlvy h3 3 d
theorem qai2(W:World)(B:Nat)(a b c d:Value)(k:Nat)(hk:k≠B):(set4 W B a b c d).heap[k]? = W.heap[k]? := by
 unfold set4
 rw[Below.heap_setCell _ _ _ _ hk,Below.heap_setCell _ _ _ _ hk,Below.heap_setCell _ _ _ _ hk,Below.heap_setCell _ _ _ _ hk]
theorem quyt{w W:World}{B:Nat}{r:Option Nat}(h:w.grownBy W r)(hB:w.heap.size≤B)(a b c d:Value):w.grownBy (set4 W B a b c d) r:=
 ⟨h.os,h.tape,h.output,by have:=h.size;unfold set4;simpa [World.setCell] using this,fun k hk hne=>(qai2 W B a b c d k (by omega)).trans (h.block k hk hne)⟩
theorem qden{w W:World}{B k:Nat}(h:Below B w W)(hB:B≤k)(a b c d:Value):Below B w (set4 W k a b c d):=
 ⟨h.os,h.tape,h.output,by have:=h.size;unfold set4;simpa [World.setCell] using this,fun m hm=>(qai2 W k a b c d m (by omega)).trans (h.block m hm)⟩
theorem RdW.fin{w W:World}{cb i:Nat}{s:ByteArray}{e:Int}(h:RdW w W cb)(hc:Cur W cb s i e)(a b c d:Value) :
 (set4 W (w.heap.size+1) a b c d).heap[w.heap.size+1]? = some (.cells #[a,b,c,d] 25 (0,0))∧Cur (set4 W (w.heap.size+1) a b c d) cb s i e∧w.grownBy (set4 W (w.heap.size+1) a b c d) (some cb):=
 ⟨qgwu h.2.2.1 a b c d,hc.of_block (qai2 _ _ _ _ _ _ _ (by have:=h.2.2.2.1;omega)),quyt h.1 (by omega) a b c d⟩
theorem qlwy{fn:Func}{R:Ending→World→Prop}{a:Act}{W:World}{p:Tmp}{B:Nat}{cs:Array Value}(h:fn.results=#[.cell p 25])(hp:a.tmps.getD p undef = .pointer (some ⟨B,0,none⟩))(hd:a.defers=[])(hcs:cs.size=4)
 (hg:W.heap[B]? = some (.cells cs 25 (0,0))) (hR:R (.returned (.agg cs)) W):bodyPost Tryz.prog fn R .ret a W:=
 bodyPost_ret (results_cell_row h a.tmps W B 25 cs (0,0) _ hp hg Tryz.underlying25 rfl (by rw[hcs];kernel_rfl)) hd hR
theorem qak3{w:World}{cb i:Nat}{s:ByteArray}(c:Nat)(hc:Cur w cb s i 0)(hi:i≤s.size)(hm:s.size≤9223372036854775807)(h4:c≤4)(h1:1≤c) :
 Calls Tryz.prog 160 #[curV cb,.int .i64 c] w fun e w'=>∃(n i':Nat) (e':Nat),e = .returned (qbhk ⟨0,n,[],[]⟩)∧Cur w' cb s i' (e':Nat)∧w.grownBy w' (some cb)∧((s.size - i < c∧n=0∧i'=i∧e'=3)∨(i+c≤s.size∧n=num ((s.data.toList.drop i).take c)∧i'=i+c∧e'=0)):=by
 have hcw:=(hc.alloc (.cells #[.pointer (some ⟨cb,0,none⟩)] 161)).alloc (.cells #[.int .i64 0,.int .u32 0,.string ⟨#[]⟩,.string ⟨#[]⟩] 25)
 have R0:=Lib.hid (RdW.made (w:=w) hc.lt)
 have main:∀(n i' e':Nat),n < 4294967296→Calls Tryz.prog 46 #[.pointer (some ⟨cb,0,none⟩),.int .i64 c] ((w.alloc (.cells #[.pointer (some ⟨cb,0,none⟩)] 161)).alloc (.cells #[.int .i64 0,.int .u32 0,.string ⟨#[]⟩,.string ⟨#[]⟩] 25))
  (fun e w'=>e = .returned (.int .u64 n)∧Cur w' cb s i' (e':Nat)∧((w.alloc (.cells #[.pointer (some ⟨cb,0,none⟩)] 161)).alloc (.cells #[.int .i64 0,.int .u32 0,.string ⟨#[]⟩,.string ⟨#[]⟩] 25)).grownBy w' (some cb))→
  Calls Tryz.prog 160 #[curV cb,.int .i64 c] w fun e w'=>e = .returned (qbhk ⟨0,n,[],[]⟩)∧Cur w' cb s i' (e':Nat)∧w.grownBy w' (some cb):=by
  intro n i' e' hlt NB0
  have NB:=Lib.hid NB0
  have hw:IntKind.u32.wrap (n:Int)=(n:Int):=by simp only[IntKind.wrap_u32];omega
  unfold curV
  clear hcw hc hlt hi h1 h4 NB0
  go_enter Tryz.func160,Tryz.ntmps160
  go_wp2_with fail
  refine(NB.out).mono ?_
  rintro e w2 ⟨rfl,hc2,hg2⟩
  have R1:=Lib.hid (R0.out.step hg2)
  have HC:=Lib.hid hc2
  have f0:=R1.out.fr 0
  have f1:=R1.out.fr 1
  have f2:=R1.out.fr 2
  have f3:=R1.out.fr 3
  have r0:=R1.out.r 0
  have r1:=R1.out.r 1
  have r2:=R1.out.r 2
  have r3:=R1.out.r 3
  clear hc2 hg2
  go_wp2_with fail
  obtain⟨k1,k2,k3⟩:=R1.out.fin HC.out (.int .i64 0) (.int .u32 n) (.string ⟨#[]⟩) (.string ⟨#[]⟩)
  exact qlwy rfl rfl rfl rfl k1 ⟨rfl,k2,k3⟩
 by_cases hp:i+c≤s.size
 ·have NB:=qvi6 c hcw hp hm
  rw[qelx s i c hp (by omega)] at NB
  have hlt:num ((s.data.toList.drop i).take c) < 4294967296:=by
   have h1:=qn9h ((s.data.toList.drop i).take c)
   have h2:256^((s.data.toList.drop i).take c).length≤256^4:=Nat.pow_le_pow_right (by decide) (by rw[List.length_take];omega)
   have h3:256^4=4294967296:=by decide
   omega
  exact(main _ (i+c) 0 hlt NB).mono fun e w' ⟨k1,k2,k3⟩=>⟨_,_,_,k1,k2,k3,.inr ⟨hp,rfl,rfl,rfl⟩⟩
 ·have NB:=q6bm (c:Int) hcw hi hm (by omega)
  exact(main 0 i 3 (by decide) NB).mono fun e w' ⟨k1,k2,k3⟩=>⟨_,_,_,k1,k2,k3,.inl ⟨by omega,rfl,rfl,rfl⟩⟩
theorem qh3u(s:ByteArray)(i:Nat):(s.extract i s.size).data.toList=s.data.toList.drop i:=Lib.extract_to_end s i
theorem q0f1(l:List UInt8):((rdT l).2.2=0∧rdT l=rdB l∧qecx (rdB l).1=true∧(rdB l).2.2=0)∨((rdT l).2.2=3∧rdT l=([],0,3)∧(rdB l).2.2≠0)∨((rdT l).2.2=6∧rdT l=([],0,6)∧(rdB l).2.2=0∧qecx (rdB l).1=false):=by
 unfold rdT
 by_cases h:(rdB l).2.2=0
 ·rw[if_neg (by simp[h])]
  cases hv:qecx (rdB l).1 with
  | true=>rw[if_pos rfl];exact .inl ⟨h,rfl,rfl,h⟩
  | false=>rw[if_neg (by simp)];exact .inr (.inr ⟨rfl,rfl,h,rfl⟩)
 ·rw[if_pos h];exact .inr (.inl ⟨rfl,rfl,h⟩)
theorem q3gm(l:List UInt8):(rdB l).2.1≤l.length∧(rdB l).1.length≤65535:=by
 rcases qsrz l with ⟨_,h1,h2,h3,_⟩ | h
 ·exact⟨h2,by omega⟩
 ·rw[h];exact⟨Nat.zero_le _,Nat.zero_le _⟩
theorem qslt(l:List UInt8):(rdT l).2.1≤l.length∧(rdT l).1.length≤65535:=by
 rcases q0f1 l with ⟨_,h,_⟩ | ⟨_,h,_⟩ | ⟨_,h,_⟩
 ·rw[h];exact q3gm l
 ·rw[h];exact⟨Nat.zero_le _,Nat.zero_le _⟩
 ·rw[h];exact⟨Nat.zero_le _,Nat.zero_le _⟩
theorem qif8{W W':World}{r:Option Nat}(h:W.grownBy W' r)(n:Nat):W.grownBy (W'.drewN n) r:=⟨h.os,h.tape,h.output,h.size,h.block⟩
section
variable{w:World}{cb i:Nat}{s:ByteArray}
theorem qi04(hc:Cur w cb s i 0)(hi:i≤s.size)(hm:s.size≤9223372036854775807) :
 Calls Tryz.prog 145 #[curV cb] w fun e w'=>e = .returned (qbhk ⟨0,0,(rdT (s.data.toList.drop i)).1,[]⟩)∧Cur w' cb s (i+(rdT (s.data.toList.drop i)).2.1) ((rdT (s.data.toList.drop i)).2.2:Nat)∧w.grownBy w' (some cb):=by
 have hcw:=(hc.alloc (.cells #[.pointer (some ⟨cb,0,none⟩)] 161)).alloc (.cells #[.int .i64 0,.int .u32 0,.string ⟨#[]⟩,.string ⟨#[]⟩] 25)
 have R0:=Lib.hid (RdW.made (w:=w) hc.lt)
 have RS:=Lib.hid (qdvc hcw hi hm)
 have HCW:=Lib.hid hcw
 have RD:=fun W=>q2z4 (s.extract i s.size) W (by rw[q4ad,qh3u,List.length_drop,←q4ad];omega)
 rw[qh3u] at RD
 have hk:i+(rdT (s.data.toList.drop i)).2.1≤s.size:=by
  have:=(qslt (s.data.toList.drop i)).1
  rw[List.length_drop,←q4ad] at this;omega
 generalize rdT (s.data.toList.drop i)=q at *
 obtain⟨t,k,z⟩:=q
 unfold ok3 at RD
 unfold curV
 have RD1:=Lib.hid RD
 have HK:=Lib.hid hk
 have HE:=Lib.hid hm
 have HM:=Lib.hid hm
 clear hc hi hm hcw RD hk
 go_enter Tryz.func145,Tryz.ntmps145
 go_wp2_with fail
 refine(RS.out).mono ?_
 rintro e w1 ⟨rfl,m,rfl⟩
 have R1:=Lib.hid (R0.out.step (qif8 (World.grownBy.refl _ _) m))
 have C1:=Lib.hid (HCW.out.draws m)
 clear RS HCW R0
 go_wp2_with fail
 refine(RD1.out _).mono ?_
 rintro e w2 ⟨rfl,hb⟩
 have R2:=Lib.hid (R1.out.step (q9cp hb _))
 have C2:=Lib.hid (C1.out.of_block (hb.block cb C1.out.lt))
 have c0:=R2.out.c0
 have PS:=Lib.hid (qy0t k z C2.out HK.out HM.out)
 clear hb C1 R1
 unfold curV at PS
 go_wp2_with fail
 refine(PS.out).mono ?_
 rintro e w3 ⟨rfl,hc3,hg3⟩
 have R3:=Lib.hid (R2.out.step hg3)
 have C3:=Lib.hid (hc3)
 have f0:=R3.out.fr 0
 have f1:=R3.out.fr 1
 have f2:=R3.out.fr 2
 have f3:=R3.out.fr 3
 have r0:=R3.out.r 0
 have r1:=R3.out.r 1
 have r2:=R3.out.r 2
 have r3:=R3.out.r 3
 clear hc3 hg3 R2 C2 c0 PS
 go_wp2_with fail
 obtain⟨k1,k2,k3⟩:=R3.out.fin C3.out (.int .i64 0) (.int .u32 0) (.string (bs t)) (.string ⟨#[]⟩)
 exact qlwy rfl rfl rfl rfl k1 ⟨rfl,k2,k3⟩
theorem q5dm{er:Int}(hc:Cur w cb s i er)(he:(er==0)=false)(hi:i≤s.size)(hm:s.size≤9223372036854775807) :
 Calls Tryz.prog 145 #[curV cb] w fun e w'=>e = .returned (qbhk ⟨0,0,(rdT (s.data.toList.drop i)).1,[]⟩)∧Cur w' cb s i er∧w.grownBy w' (some cb):=by
 have hcw:=(hc.alloc (.cells #[.pointer (some ⟨cb,0,none⟩)] 161)).alloc (.cells #[.int .i64 0,.int .u32 0,.string ⟨#[]⟩,.string ⟨#[]⟩] 25)
 have R0:=Lib.hid (RdW.made (w:=w) hc.lt)
 have RS:=Lib.hid (qdvc hcw hi hm)
 have HCW:=Lib.hid hcw
 have RD:=fun W=>q2z4 (s.extract i s.size) W (by rw[q4ad,qh3u,List.length_drop,←q4ad];omega)
 rw[qh3u] at RD
 have hk:i+(rdT (s.data.toList.drop i)).2.1≤s.size:=by
  have:=(qslt (s.data.toList.drop i)).1
  rw[List.length_drop,←q4ad] at this;omega
 generalize rdT (s.data.toList.drop i)=q at *
 obtain⟨t,k,z⟩:=q
 unfold ok3 at RD
 unfold curV
 have RD1:=Lib.hid RD
 have HK:=Lib.hid hk
 have HE:=Lib.hid he
 have HM:=Lib.hid hm
 clear hc hi hm hcw RD hk he
 go_enter Tryz.func145,Tryz.ntmps145
 go_wp2_with fail
 refine(RS.out).mono ?_
 rintro e w1 ⟨rfl,m,rfl⟩
 have R1:=Lib.hid (R0.out.step (qif8 (World.grownBy.refl _ _) m))
 have C1:=Lib.hid (HCW.out.draws m)
 clear RS HCW R0
 go_wp2_with fail
 refine(RD1.out _).mono ?_
 rintro e w2 ⟨rfl,hb⟩
 have R2:=Lib.hid (R1.out.step (q9cp hb _))
 have C2:=Lib.hid (C1.out.of_block (hb.block cb C1.out.lt))
 have c0:=R2.out.c0
 have PS:=Lib.hid (qzcj k z C2.out HE.out)
 clear hb C1 R1
 unfold curV at PS
 go_wp2_with fail
 refine(PS.out).mono ?_
 rintro e w3 ⟨rfl,hb3⟩
 have R3:=Lib.hid (R2.out.step (q9cp hb3 _))
 have C3:=Lib.hid (C2.out.of_block (hb3.block cb C2.out.lt))
 have f0:=R3.out.fr 0
 have f1:=R3.out.fr 1
 have f2:=R3.out.fr 2
 have f3:=R3.out.fr 3
 have r0:=R3.out.r 0
 have r1:=R3.out.r 1
 have r2:=R3.out.r 2
 have r3:=R3.out.r 3
 clear hb3 R2 C2 c0 PS
 go_wp2_with fail
 obtain⟨k1,k2,k3⟩:=R3.out.fin C3.out (.int .i64 0) (.int .u32 0) (.string (bs t)) (.string ⟨#[]⟩)
 exact qlwy rfl rfl rfl rfl k1 ⟨rfl,k2,k3⟩
theorem q6x7(hc:Cur w cb s i 0)(hi:i≤s.size)(hm:s.size≤9223372036854775807) :
 Calls Tryz.prog 146 #[curV cb] w fun e w'=>e = .returned (qbhk ⟨0,0,(rdB (s.data.toList.drop i)).1,[]⟩)∧Cur w' cb s (i+(rdB (s.data.toList.drop i)).2.1) ((rdB (s.data.toList.drop i)).2.2:Nat)∧w.grownBy w' (some cb):=by
 have hcw:=(hc.alloc (.cells #[.pointer (some ⟨cb,0,none⟩)] 161)).alloc (.cells #[.int .i64 0,.int .u32 0,.string ⟨#[]⟩,.string ⟨#[]⟩] 25)
 have R0:=Lib.hid (RdW.made (w:=w) hc.lt)
 have RS:=Lib.hid (qdvc hcw hi hm)
 have HCW:=Lib.hid hcw
 have RD:=fun W=>qgvs (s.extract i s.size) W (by rw[q4ad,qh3u,List.length_drop,←q4ad];omega)
 rw[qh3u] at RD
 have hk:i+(rdB (s.data.toList.drop i)).2.1≤s.size:=by
  have:=(q3gm (s.data.toList.drop i)).1
  rw[List.length_drop,←q4ad] at this;omega
 generalize rdB (s.data.toList.drop i)=q at *
 obtain⟨t,k,z⟩:=q
 unfold ok3 at RD
 unfold curV
 have RD1:=Lib.hid RD
 have HK:=Lib.hid hk
 have HE:=Lib.hid hm
 have HM:=Lib.hid hm
 clear hc hi hm hcw RD hk
 go_enter Tryz.func146,Tryz.ntmps146
 go_wp2_with fail
 refine(RS.out).mono ?_
 rintro e w1 ⟨rfl,m,rfl⟩
 have R1:=Lib.hid (R0.out.step (qif8 (World.grownBy.refl _ _) m))
 have C1:=Lib.hid (HCW.out.draws m)
 clear RS HCW R0
 go_wp2_with fail
 refine(RD1.out _).mono ?_
 rintro e w2 ⟨rfl,hb⟩
 have R2:=Lib.hid (R1.out.step (q9cp hb _))
 have C2:=Lib.hid (C1.out.of_block (hb.block cb C1.out.lt))
 have c0:=R2.out.c0
 have PS:=Lib.hid (qy0t k z C2.out HK.out HM.out)
 clear hb C1 R1
 unfold curV at PS
 go_wp2_with fail
 refine(PS.out).mono ?_
 rintro e w3 ⟨rfl,hc3,hg3⟩
 have R3:=Lib.hid (R2.out.step hg3)
 have C3:=Lib.hid (hc3)
 have f0:=R3.out.fr 0
 have f1:=R3.out.fr 1
 have f2:=R3.out.fr 2
 have f3:=R3.out.fr 3
 have r0:=R3.out.r 0
 have r1:=R3.out.r 1
 have r2:=R3.out.r 2
 have r3:=R3.out.r 3
 clear hc3 hg3 R2 C2 c0 PS
 go_wp2_with fail
 obtain⟨k1,k2,k3⟩:=R3.out.fin C3.out (.int .i64 0) (.int .u32 0) (.string (bs t)) (.string ⟨#[]⟩)
 exact qlwy rfl rfl rfl rfl k1 ⟨rfl,k2,k3⟩
end
theorem qips(l:List UInt8):rdN l≤l.length∧rdV l≤268435455∧(rdE l=0∨(rdN l=0∧rdV l=0∧(rdE l=3∨rdE l=5))):=by
 obtain⟨v,c,st,hr⟩:∃v n st,run 0 0 l=(v,n,st):=⟨_,_,_,rfl⟩
 obtain⟨e1,e2,e3⟩:=qa1w hr
 rcases qh9e l 0 0 with h1 | h1 | h1
 all_goals (rw[hr] at h1;simp only at h1;subst h1;simp at e1 e2 e3;rw[e1,e2,e3])
 ·exact⟨Nat.zero_le _,Nat.zero_le _,.inr ⟨rfl,rfl,.inl rfl⟩⟩
 ·obtain⟨b1,b2,b3,b4⟩:=qvpf l v c hr
  exact⟨by omega,by omega,.inl rfl⟩
 ·exact⟨Nat.zero_le _,Nat.zero_le _,.inr ⟨rfl,rfl,.inr rfl⟩⟩
section
variable{w:World}{cb i:Nat}{s:ByteArray}
theorem qdow(hc:Cur w cb s i 0)(hi:i≤s.size)(hm:s.size≤9223372036854775807) :
 Calls Tryz.prog 144 #[curV cb] w fun e w'=>e = .returned (qbhk ⟨0,rdV (s.data.toList.drop i),[],[]⟩)∧Cur w' cb s (i+rdN (s.data.toList.drop i)) (rdE (s.data.toList.drop i):Nat)∧w.grownBy w' (some cb):=by
 have hcw:=(hc.alloc (.cells #[.pointer (some ⟨cb,0,none⟩)] 161)).alloc (.cells #[.int .i64 0,.int .u32 0,.string ⟨#[]⟩,.string ⟨#[]⟩] 25)
 have R0:=Lib.hid (RdW.made (w:=w) hc.lt)
 have RS:=Lib.hid (qdvc hcw hi hm)
 have HCW:=Lib.hid hcw
 have RD:=fun W=>q6w6 (s.extract i s.size) W (by rw[q4ad,qh3u,List.length_drop,←q4ad];omega)
 rw[qh3u] at RD
 unfold qxfh q51h at RD
 obtain⟨q1,q2,_⟩:=qips (s.data.toList.drop i)
 rw[List.length_drop,←q4ad] at q1
 have hk:i+rdN (s.data.toList.drop i)≤s.size:=by omega
 generalize rdN (s.data.toList.drop i)=k at *
 generalize rdE (s.data.toList.drop i)=z at *
 generalize rdV (s.data.toList.drop i)=v at *
 unfold curV
 have hw:IntKind.u32.wrap (v:Int)=(v:Int):=by simp only[IntKind.wrap_u32];omega
 have RD1:=Lib.hid RD
 have HK:=Lib.hid hk
 have HM:=Lib.hid hm
 clear hc hi hm hcw RD hk q1 q2
 go_enter Tryz.func144,Tryz.ntmps144
 go_wp2_with fail
 refine(RS.out).mono ?_
 rintro e w1 ⟨rfl,m,rfl⟩
 have R1:=Lib.hid (R0.out.step (qif8 (World.grownBy.refl _ _) m))
 have C1:=Lib.hid (HCW.out.draws m)
 clear RS HCW R0
 go_wp2_with fail
 refine(RD1.out _).mono ?_
 rintro e w2 ⟨rfl,hb⟩
 have R2:=Lib.hid (R1.out.step (q9cp hb _))
 have C2:=Lib.hid (C1.out.of_block (hb.block cb C1.out.lt))
 have c0:=R2.out.c0
 have PS:=Lib.hid (qy0t k z C2.out HK.out HM.out)
 clear hb C1 R1
 unfold curV at PS
 go_wp2_with fail
 refine(PS.out).mono ?_
 rintro e w3 ⟨rfl,hc3,hg3⟩
 have R3:=Lib.hid (R2.out.step hg3)
 have C3:=Lib.hid hc3
 have f0:=R3.out.fr 0
 have f1:=R3.out.fr 1
 have f2:=R3.out.fr 2
 have f3:=R3.out.fr 3
 have r0:=R3.out.r 0
 have r1:=R3.out.r 1
 have r2:=R3.out.r 2
 have r3:=R3.out.r 3
 clear hc3 hg3 R2 C2 c0 PS
 go_wp2_with fail
 obtain⟨k1,k2,k3⟩:=R3.out.fin C3.out (.int .i64 0) (.int .u32 v) (.string ⟨#[]⟩) (.string ⟨#[]⟩)
 exact qlwy rfl rfl rfl rfl k1 ⟨rfl,k2,k3⟩
end
def CsAt(W:World)(cb:Nat)(s:ByteArray)(x:Cs):Prop:=∃i,i≤s.size∧Cur W cb s i (x.e:Nat)∧s.data.toList.drop i=x.r
section
variable{w W W':World}{cb:Nat}{s:ByteArray}{x:Cs}
theorem CsAt.lt(h:CsAt W cb s x):cb < W.heap.size:=by obtain⟨i,_,hc,_⟩:=h;exact hc.lt
theorem CsAt.of_block(h:CsAt W cb s x)(hb:W'.heap[cb]? = W.heap[cb]?):CsAt W' cb s x:=by obtain⟨i,hi,hc,hr⟩:=h;exact⟨i,hi,hc.of_block hb,hr⟩
theorem CsAt.alloc(h:CsAt W cb s x)(o:Obj):CsAt (W.alloc o) cb s x:=h.of_block (heap_alloc_old _ _ h.lt)
theorem CsAt.below(h:CsAt W cb s x)(hb:Below W.heap.size W W'):CsAt W' cb s x:=h.of_block (hb.block cb h.lt)
theorem CsAt.draws(h:CsAt W cb s x)(n:Nat):CsAt (W.drewN n) cb s x:=h
theorem CsAt.len(h:CsAt W cb s x):x.r.length≤s.size:=by
 obtain⟨i,hi,_,hr⟩:=h
 rw[←hr,List.length_drop,←q4ad];omega
theorem q31q(s:ByteArray)(i n:Nat):s.extract i (i+n)=bs ((s.data.toList.drop i).take n):=by
 apply ByteArray.ext
 apply Array.ext'
 simp[bs,List.extract_eq_take_drop]
theorem q8yf(n:Nat)(hn8:n≤8)(hm:s.size≤9223372036854775807)(h:CsAt w cb s x) :
 Calls Tryz.prog 46 #[.pointer (some ⟨cb,0,none⟩),.int .i64 n] w fun e w'=>e = .returned (.int .u64 ((x.num n).1:Nat))∧CsAt w' cb s (x.num n).2∧w.grownBy w' (some cb):=by
 obtain⟨i,hi,hc,hr⟩:=h
 have hl:x.r.length=s.size - i:=by rw[←hr,List.length_drop,←q4ad]
 unfold Cs.num Cs.take
 by_cases he:x.e=0
 ·rw[if_neg (by simpa using he)]
  rw[he] at hc
  by_cases hn:x.r.length < n
  ·rw[if_pos hn]
   refine(q6bm (n:Int) hc hi hm (by omega)).mono fun e w' ⟨h1,h2,h3⟩=>⟨h1,⟨i,hi,h2,hr⟩,h3⟩
  ·rw[if_neg hn]
   refine(qvi6 n hc (by omega) hm).mono fun e w' ⟨h1,h2,h3⟩=>⟨?_,⟨i+n,by omega,h2,?_⟩,h3⟩
   ·rw[h1,qelx s i n (by omega) hn8,hr]
   ·rw[←hr,List.drop_drop]
 ·rw[if_pos he]
  refine(qgl9 (n:Int) hc (by simp;omega)).mono fun e w' ⟨h1,h2⟩=>⟨h1,h2▸⟨i,hi,hc,hr⟩,h2▸World.grownBy.refl _ _⟩
theorem qjtm(hm:s.size≤9223372036854775807)(h:CsAt w cb s x) :
 Calls Tryz.prog 45 #[.pointer (some ⟨cb,0,none⟩)] w fun e w'=>e = .returned (.int .i64 (x.r.length:Nat))∧∃n,w'=w.drewN n:=by
 obtain⟨i,hi,hc,hr⟩:=h
 have hl:x.r.length=s.size - i:=by rw[←hr,List.length_drop,←q4ad]
 rw[hl]
 exact qog8 hc hi hm
theorem qzrp(hm:s.size≤9223372036854775807)(h:CsAt w cb s x) :
 Calls Tryz.prog 48 #[.pointer (some ⟨cb,0,none⟩)] w fun e w'=>e = .returned (.string (bs x.r))∧∃n,w'=w.drewN n:=by
 obtain⟨i,hi,hc,hr⟩:=h
 have e:s.extract i s.size=bs x.r:=by
  have h1:=q31q s i (s.size - i)
  rw[show i+(s.size - i)=s.size by omega,hr] at h1
  rw[h1,List.take_of_length_le]
  rw[←hr,List.length_drop,←q4ad];exact Nat.le_refl _
 rw[←e]
 exact qdvc hc hi hm
theorem qazj(f:Nat)(h:CsAt w cb s x) :
 Calls Tryz.prog 49 #[.pointer (some ⟨cb,0,none⟩),.int .i64 (f:Nat)] w fun e w'=>e = .returned (.tuple #[])∧CsAt w' cb s (x.fail f)∧w.grownBy w' (some cb):=by
 obtain⟨i,hi,hc,hr⟩:=h
 unfold Cs.fail
 by_cases he:x.e=0
 ·rw[if_neg (by simpa using he)]
  rw[he] at hc
  exact(qxdm (f:Int) hc).mono fun e w' ⟨h1,h2,h3⟩=>⟨h1,⟨i,hi,h2,hr⟩,h3⟩
 ·rw[if_pos he]
  exact(fail_no (f:Int) hc (by simp;omega)).mono fun e w' ⟨h1,h2⟩=>⟨h1,h2▸⟨i,hi,hc,hr⟩,h2▸World.grownBy.refl _ _⟩
theorem q3gp(h:CsAt w cb s x) :
 Calls Tryz.prog 50 #[.pointer (some ⟨cb,0,none⟩)] w fun e w'=>e = .returned (.int .i64 (x.e:Nat))∧w=w':=by
 obtain⟨i,hi,hc,hr⟩:=h
 exact q29p hc
end
structure KcS(w:World)(cb:Nat)(s:ByteArray)(B:Nat)(y:Cs)(P:Pk)(a:Ad)(W:World):Prop where
 low:Below w.heap.size w W
 rs:W.heap[w.heap.size]? = some (.cells pkZ 35 (0,0))
 lt:w.heap.size < cb
 hB:cb < B
 pk:W.heap[B]? = some (.cells (pkC P a) 35 (0,0))
 cs:CsAt W cb s y
 ps:PL W a.ps P.props
 pc:P.props.length≤a.pc
 pf:∀g i,a.ps=some ⟨g,i,none⟩→B < g
section
variable{w W W':World}{cb:Nat}{s:ByteArray}{x y y':Cs}{B:Nat}{P P':Pk}{a a':Ad}
theorem KcS.call(h:KcS w cb s B y P a W)(hc:CsAt W' cb s y')(hg:W.grownBy W' (some cb)):KcS w cb s B y' P a W':=by
 have lt:=h.lt
 have hB:=h.hB
 exact⟨h.low.grown hg h.low.size (fun k e=>by have:=Option.some.inj e;omega),(hg.block _ (lt_of_block h.rs) (fun e=>by have:=Option.some.inj e;omega)).trans h.rs,lt,hB,
  (hg.block _ (lt_of_block h.pk) (fun e=>by have:=Option.some.inj e;omega)).trans h.pk,hc,h.ps.grown hg (fun g i e=>by have:=h.pf g i e;omega),h.pc,h.pf⟩
theorem KcS.below(h:KcS w cb s B y P a W)(hb:Below W.heap.size W W'):KcS w cb s B y P a W':=h.call (h.cs.below hb) (q9cp hb _)
theorem KcS.draws(h:KcS w cb s B y P a W)(n:Nat):KcS w cb s B y P a (W.drewN n):=h.below (qnpu (Below.refl _ _) n)
theorem KcS.cell(h:KcS w cb s B y P a W)(j:Nat):W.cell? ⟨B,j,none⟩=(pkC P a)[j]? := cell_of_row _ _ j _ _ _ h.pk
theorem KcS.fr(h:KcS w cb s B y P a W)(j:Nat):W.frozen? ⟨B,j,none⟩=false:=frozen_of_row _ _ _ _ _ h.pk
theorem KcS.set(h:KcS w cb s B y P a W)(j:Nat)(u:Value)(he:(pkC P a).setIfInBounds j u=pkC P' a')(ps:PL W a'.ps P'.props)(pc:P'.props.length≤a'.pc)(pf:∀g i,a'.ps=some ⟨g,i,none⟩→B < g):KcS w cb s B y P' a' (W.setCell ⟨B,j,none⟩ u):=by
 have o:∀k,k≠B→(W.setCell ⟨B,j,none⟩ u).heap[k]? = W.heap[k]? := fun k hk=>heap_setCell_other W ⟨B,j,none⟩ k u hk
 have lt:=h.lt
 have hB:=h.hB
 exact⟨h.low.setCell (by show _≤B;omega) u,(o _ (by omega)).trans h.rs,lt,hB,by have:=qlvy h.pk j u;rw[he] at this;exact this,h.cs.of_block (o _ (by omega)),
  ps.kept (q99v W B j u).size (fun g i e _=>o g (by have:=pf g i e;omega)),pc,pf⟩
theorem KcS.laid(low:Below w.heap.size w W)(rs:W.heap[w.heap.size]? = some (.cells pkZ 35 (0,0)))(lt:w.heap.size < cb)(cs:CsAt W cb s y){D:Array Value}(hD:pkC P adZ=D)(hp:P.props=[]):KcS w cb s W.heap.size y P adZ ((W.alloc (.cells pkZ 35)).setRow W.heap.size D):=by
 have hb:Below W.heap.size W ((W.alloc (.cells pkZ 35)).setRow W.heap.size D):=q8xz (qybm _) (Nat.le_refl _) D
 refine⟨qxh2 low hb,(hb.block _ (lt_of_block rs)).trans rs,lt,cs.lt,by rw[hD];exact setRow_heap _ _ _ D _ _ (heap_alloc_new W _),cs.below hb,?_,by rw[hp];exact Nat.zero_le _,fun g i e=>(by cases e)⟩
 rw[hp];exact PL.nil
end
end Go.Proofs.YtbklidpadffpgaaGreat
