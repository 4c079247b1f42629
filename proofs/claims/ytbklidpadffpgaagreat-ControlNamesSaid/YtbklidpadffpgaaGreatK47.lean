/- The contracts of prop's cursor: what reads a value of each shape. Condition: the bytes are no more than an int says. -/
import Derived.Test.YtbklidpadffpgaaGreatK43
import Derived.Test.YtbklidpadffpgaaGreatK46
import Derived.Test.YtbklidpadffpgaaGreatK22
import Derived.Test.YtbklidpadffpgaaGreatK45
set_option maxHeartbeats 4000000
set_option maxRecDepth 100000
namespace Go.Proofs.YtbklidpadffpgaaGreat
open Go.RowKit
def q585:List (Int×Value):=[(7,.func (.func 147) #[] #[]),(6,.func (.func 146) #[] #[]),(5,.func (.func 145) #[] #[]),(4,.func (.func 144) #[] #[]),(3,.func (.func 143) #[] #[]),(2,.func (.func 142) #[] #[]),(1,.func (.func 141) #[] #[])]
def qp0k(w:World)(b:Nat):Prop:=qmfc Tryz.prog 3 w b .nilFunc q585
theorem qhy7(w:World):Calls Tryz.prog 116 #[] w fun e w'=>e = .returned (.map (some w.heap.size))∧qp0k w' w.heap.size∧Below w.heap.size w w':=by
 have hmm:=@run_makeMap Tryz.prog
 have hG:MapG Tryz.prog 3 w (w.alloc (.map #[] 0)) w.heap.size .nilFunc []:=⟨qmfc.made _ _ _ _,(Below.refl _ _).alloc (Nat.le_refl _) _,Nat.le_refl _⟩
 go_enter Tryz.func116,Tryz.ntmps116
 go_wp2_with (refine q32q rfl _ _ _ 162 rfl 3 179 Tryz.underlying3 Tryz.underlying162 _ _ _ rfl hG (by simp[maxLen]) _ _ rfl rfl (by decide) ?_;clear hG;intro w1 hG)
 go_ret
 exact⟨rfl,hG.1,hG.2.1⟩
theorem qawq(W:World):(zeroValue 179).run Tryz.prog W = .ok .nilFunc W:=by kernel_rfl
theorem qp0k.look{w:World}{b:Nat}(h:qp0k w b)(s:Int)(h0:-9223372036854775808≤s)(h1:s≤9223372036854775807) :
 (Instr.lookup 162 (.map (some b)) (.int .i64 s) false).run Tryz.prog w = .ok (q1n3 .nilFunc q585 s) w:=
 qmfc.look h Tryz.underlying3 Tryz.underlying162 (qawq w) (qs52 h0 h1)
def curV(cb:Nat):Value := .agg #[.pointer (some ⟨cb,0,none⟩)]
def RdS(cb:Nat)(s:ByteArray)(i:Nat)(id:Int)(W:World)(e:Ending)(W':World):Prop:=
 ∃(p:Pr) (i' e':Nat),e = .returned (qbhk p)∧Cur W' cb s i' (e':Nat)∧W.grownBy W' (some cb)∧i'≤s.size∧
  (qij7 id (s.data.toList.drop i)).2.2=(if e'=3 then 5 else e')∧
  (e'=0→i'=i+(qij7 id (s.data.toList.drop i)).2.1∧qij7 id (s.data.toList.drop i)=(⟨id,p.n,p.text,p.value⟩,i' - i,0)∧p.n < 4294967296∧p.text.length≤65535∧p.value.length≤65535)
section
variable{w:World}{cb i:Nat}{s:ByteArray}
theorem Cur.alloc{e:Int}(h:Cur w cb s i e)(o:Obj):Cur (w.alloc o) cb s i e:=h.of_block (heap_alloc_old _ _ h.lt)
theorem qy0t(k:Nat)(f:Int)(hc:Cur w cb s i 0)(hi:i+k≤s.size)(hm:s.size≤9223372036854775807) :
 Calls Tryz.prog 161 #[curV cb,.int .i64 k,.int .i64 f] w fun e' w'=>e' = .returned (.tuple #[])∧Cur w' cb s (i+k) f∧w.grownBy w' (some cb):=by
 have hc1:=hc.alloc (.cells #[.pointer (some ⟨cb,0,none⟩)] 161)
 have TK:=Lib.hid (qpai k hc1 hi hm)
 have hne:cb≠w.heap.size:=Nat.ne_of_lt hc.lt
 have hb0:(w.alloc (.cells #[.pointer (some ⟨cb,0,none⟩)] 161)).heap[w.heap.size]? = some (.cells #[.pointer (some ⟨cb,0,none⟩)] 161 (0,0)):=heap_alloc_new w _
 have G0:=Lib.hid (World.grownBy_alloc w (.cells #[.pointer (some ⟨cb,0,none⟩)] 161) (some cb))
 have HB0:=Lib.hid hb0
 have SZ:=Lib.hid (World.size_alloc w (.cells #[.pointer (some ⟨cb,0,none⟩)] 161))
 unfold curV
 clear hc1 hi hb0
 go_enter Tryz.func161,Tryz.ntmps161
 go_wp2_with fail
 refine(TK.out).mono ?_
 rintro e w2 ⟨rfl,hc2,hg2⟩
 have hb2:=(hg2.block w.heap.size (by rw[SZ.out];omega) (fun e=>hne (Option.some.inj e).symm)).trans HB0.out
 have c0:w2.cell? ⟨w.heap.size,0,none⟩=some (.pointer (some ⟨cb,0,none⟩)):=cell_of_row _ _ _ _ _ _ hb2
 have FL:=Lib.hid (qxdm f hc2)
 have G2:=Lib.hid (qo6d G0.out hg2)
 clear hb2 hc2 hg2 TK
 go_wp2_with fail
 refine(FL.out).mono ?_
 rintro e w3 ⟨rfl,hc3,hg3⟩
 have HC3:=Lib.hid hc3
 have G3:=Lib.hid (qo6d G2.out hg3)
 clear hc3 hg3 c0
 go_wp2_with fail
 go_end0
 exact⟨rfl,HC3.out,G3.out⟩
theorem qzcj(k:Nat)(f:Int){e:Int}(hc:Cur w cb s i e)(he:(e==0)=false) :
 Calls Tryz.prog 161 #[curV cb,.int .i64 k,.int .i64 f] w fun e' w'=>e' = .returned (.tuple #[])∧Below w.heap.size w w':=by
 have hc1:=hc.alloc (.cells #[.pointer (some ⟨cb,0,none⟩)] 161)
 have TK:=Lib.hid (q95z (k:Int) hc1 he)
 have FL:=Lib.hid (fail_no f hc1 he)
 unfold curV
 clear hc1
 have B1:=Lib.hid (show Below w.heap.size w (w.alloc (.cells #[.pointer (some ⟨cb,0,none⟩)] 161)) from(Below.refl _ _).alloc (Nat.le_refl _) _)
 go_enter Tryz.func161,Tryz.ntmps161
 go_wp2_with fail
 refine(TK.out).mono ?_
 rintro e w2 ⟨rfl,rfl⟩
 go_wp2_with fail
 refine(FL.out).mono ?_
 rintro e w3 ⟨rfl,rfl⟩
 go_wp2_with fail
 go_end0
 exact⟨rfl,B1.out⟩
end
theorem qelx(s:ByteArray)(i c:Nat)(_h:i+c≤s.size)(hc:c≤8):qf3l (s.extract i (i+c))=num ((s.data.toList.drop i).take c):=by
 have e:(s.extract i (i+c)).data.toList=(s.data.toList.drop i).take c:=by simp[List.extract_eq_take_drop]
 have e2:(s.extract i (i+c)).size≤8:=by rw[q4ad,e,List.length_take];omega
 unfold qf3l
 rw[e,show(s.extract i (i+c)).size - 8=0 by omega];rfl
def RdW(w W:World)(cb:Nat):Prop:=
 w.grownBy W (some cb)∧W.heap[w.heap.size]? = some (.cells #[.pointer (some ⟨cb,0,none⟩)] 161 (0,0))∧W.heap[w.heap.size+1]? = some (.cells #[.int .i64 0,.int .u32 0,.string ⟨#[]⟩,.string ⟨#[]⟩] 25 (0,0))∧cb < w.heap.size∧w.heap.size+2≤W.heap.size
section
variable{w W W':World}{cb:Nat}
theorem RdW.made(h:cb < w.heap.size):RdW w ((w.alloc (.cells #[.pointer (some ⟨cb,0,none⟩)] 161)).alloc (.cells #[.int .i64 0,.int .u32 0,.string ⟨#[]⟩,.string ⟨#[]⟩] 25)) cb:=by
 refine⟨qo6d (World.grownBy_alloc _ _ _) (World.grownBy_alloc _ _ _),(heap_alloc_old _ _ (by simp)).trans (heap_alloc_new w _),?_,h,by simp⟩
 have:=heap_alloc_new (w.alloc (.cells #[.pointer (some ⟨cb,0,none⟩)] 161)) (.cells #[.int .i64 0,.int .u32 0,.string ⟨#[]⟩,.string ⟨#[]⟩] 25)
 rwa [World.size_alloc] at this
theorem RdW.step(h:RdW w W cb)(hg:W.grownBy W' (some cb)):RdW w W' cb:=by
 obtain⟨h1,h2,h3,h4,h5⟩:=h
 exact⟨qo6d h1 hg,(hg.block _ (by omega) (fun e=>by have:=Option.some.inj e;omega)).trans h2,(hg.block _ (by omega) (fun e=>by have:=Option.some.inj e;omega)).trans h3,h4,Nat.le_trans h5 hg.size⟩
theorem RdW.c0(h:RdW w W cb):W.cell? ⟨w.heap.size,0,none⟩=some (.pointer (some ⟨cb,0,none⟩)):=cell_of_row _ _ _ _ _ _ h.2.1
theorem RdW.fr(h:RdW w W cb)(j:Nat):W.frozen? ⟨w.heap.size+1,j,none⟩=false:=by have h1:=h.2.2.1;simp[World.frozen?,h1]
theorem RdW.r(h:RdW w W cb)(j:Nat):W.cell? ⟨w.heap.size+1,j,none⟩=(#[.int .i64 0,.int .u32 0,.string ⟨#[]⟩,.string ⟨#[]⟩]:Array Value)[j]? := cell_of_row _ _ _ _ _ _ h.2.2.1
end
def set4(W:World)(B:Nat)(a b c d:Value):World:=(((W.setCell ⟨B,0,none⟩ a).setCell ⟨B,1,none⟩ b).setCell ⟨B,2,none⟩ c).setCell ⟨B,3,none⟩ d
theorem qgwu{W:World}{B:Nat}{t:TypeId}{x0 x1 x2 x3:Value}(h:W.heap[B]? = some (.cells #[x0,x1,x2,x3] t (0,0)))(a b c d:Value):(set4 W B a b c d).heap[B]? = some (.cells #[a,b,c,d] t (0,0)):=by
 have h1:=qlvy h 0 a
 have h2:=qlvy h1 1 b
 have h3:=qlvy h2 2 c
 exact qlvy h3 3 d
theorem qai2(W:World)(B:Nat)(a b c d:Value)(k:Nat)(hk:k≠B):(set4 W B a b c d).heap[k]? = W.heap[k]? := by
 unfold set4
 rw[Below.heap_setCell _ _ _ _ hk,Below.heap_setCell _ _ _ _ hk,Below.heap_setCell _ _ _ _ hk,Below.heap_setCell _ _ _ _ hk]
theorem quyt{w W:World}{B:Nat}{r:Option Nat}(h:w.grownBy W r)(hB:w.heap.size≤B)(a b c d:Value):w.grownBy (set4 W B a b c d) r:=
 ⟨h.os,h.tape,h.output,by have:=h.size;unfold set4;simpa [World.setCell] using this,fun k hk hne=>(qai2 W B a b c d k (by omega)).trans (h.block k hk hne)⟩
theorem RdW.fin{w W:World}{cb i:Nat}{s:ByteArray}{e:Int}(h:RdW w W cb)(hc:Cur W cb s i e)(a b c d:Value) :
 (set4 W (w.heap.size+1) a b c d).heap[w.heap.size+1]? = some (.cells #[a,b,c,d] 25 (0,0))∧Cur (set4 W (w.heap.size+1) a b c d) cb s i e∧w.grownBy (set4 W (w.heap.size+1) a b c d) (some cb):=
 ⟨qgwu h.2.2.1 a b c d,hc.of_block (qai2 _ _ _ _ _ _ _ (by have:=h.2.2.2.1;omega)),quyt h.1 (by omega) a b c d⟩
theorem qlwy{fn:Func}{R:Ending→World→Prop}{a:Act}{W:World}{p:Tmp}{B:Nat}{cs:Array Value}(h:fn.results=#[.cell p 25])(hp:a.tmps.getD p undef = .pointer (some ⟨B,0,none⟩))(hd:a.defers=[])(hcs:cs.size=4)
 (hg:W.heap[B]? = some (.cells cs 25 (0,0))) (hR:R (.returned (.agg cs)) W):bodyPost Tryz.prog fn R .ret a W:=
 bodyPost_ret (results_cell_row h a.tmps W B 25 cs (0,0) _ hp hg Tryz.underlying25 rfl (by rw[hcs];kernel_rfl)) hd hR
theorem qak3{w:World}{cb i:Nat}{s:ByteArray}(c:Nat)(hc:Cur w cb s i 0)(hi:i≤s.size)(hm:s.size≤9223372036854775807)(h4:c≤4)(h1:1≤c) :
 Calls Tryz.prog 160 #[curV cb,.int .i64 c] w fun e w'=>∃(n i':Nat) (e':Nat),e = .returned (qbhk ⟨0,n,[],[]⟩)∧Cur w' cb s i' (e':Nat)∧w.grownBy w' (some cb)∧((s.size - i < c∧n=0∧i'=i∧e'=3)∨(i+c≤s.size∧n=num ((s.data.toList.drop i).take c)∧i'=i+c∧e'=0)):=by
 have hcw:=(hc.alloc (.cells #[.pointer (some ⟨cb,0,none⟩)] 161)).alloc (.cells #[.int .i64 0,.int .u32 0,.string ⟨#[]⟩,.string ⟨#[]⟩] 25)
 have R0:=Lib.hid (RdW.made (w:=w) hc.lt)
 have main:∀(n i' e':Nat),n < 4294967296→Calls Tryz.prog 46 #[.pointer (some ⟨cb,0,none⟩),.int .i64 c] ((w.alloc (.cells #[.pointer (some ⟨cb,0,none⟩)] 161)).alloc (.cells #[.int .i64 0,.int .u32 0,.string ⟨#[]⟩,.string ⟨#[]⟩] 25))
  (fun e w'=>e = .returned (.int .u64 n)∧Cur w' cb s i' (e':Nat)∧((w.alloc (.cells #[.pointer (some ⟨cb,0,none⟩)] 161)).alloc (.cells #[.int .i64 0,.int .u32 0,.string ⟨#[]⟩,.string ⟨#[]⟩] 25)).grownBy w' (some cb))→
  Calls Tryz.prog 160 #[curV cb,.int .i64 c] w fun e w'=>e = .returned (qbhk ⟨0,n,[],[]⟩)∧Cur w' cb s i' (e':Nat)∧w.grownBy w' (some cb):=by
  intro n i' e' hlt NB0
  have NB:=Lib.hid NB0
  have hw:IntKind.u32.wrap (n:Int)=(n:Int):=by simp only[IntKind.wrap_u32];omega
  unfold curV
  clear hcw hc hlt hi h1 h4 NB0
  go_enter Tryz.func160,Tryz.ntmps160
  go_wp2_with fail
  refine(NB.out).mono ?_
  rintro e w2 ⟨rfl,hc2,hg2⟩
  have R1:=Lib.hid (R0.out.step hg2)
  have HC:=Lib.hid hc2
  have f0:=R1.out.fr 0
  have f1:=R1.out.fr 1
  have f2:=R1.out.fr 2
  have f3:=R1.out.fr 3
  have r0:=R1.out.r 0
  have r1:=R1.out.r 1
  have r2:=R1.out.r 2
  have r3:=R1.out.r 3
  clear hc2 hg2
  go_wp2_with fail
  obtain⟨k1,k2,k3⟩:=R1.out.fin HC.out (.int .i64 0) (.int .u32 n) (.string ⟨#[]⟩) (.string ⟨#[]⟩)
  exact qlwy rfl rfl rfl rfl k1 ⟨rfl,k2,k3⟩
 by_cases hp:i+c≤s.size
 ·have NB:=qvi6 c hcw hp hm
  rw[qelx s i c hp (by omega)] at NB
  have hlt:num ((s.data.toList.drop i).take c) < 4294967296:=by
   have h1:=qn9h ((s.data.toList.drop i).take c)
   have h2:256^((s.data.toList.drop i).take c).length≤256^4:=Nat.pow_le_pow_right (by decide) (by rw[List.length_take];omega)
   have h3:256^4=4294967296:=by decide
   omega
  exact(main _ (i+c) 0 hlt NB).mono fun e w' ⟨k1,k2,k3⟩=>⟨_,_,_,k1,k2,k3,.inr ⟨hp,rfl,rfl,rfl⟩⟩
 ·have NB:=q6bm (c:Int) hcw hi hm (by omega)
  exact(main 0 i 3 (by decide) NB).mono fun e w' ⟨k1,k2,k3⟩=>⟨_,_,_,k1,k2,k3,.inl ⟨by omega,rfl,rfl,rfl⟩⟩
theorem qh3u(s:ByteArray)(i:Nat):(s.extract i s.size).data.toList=s.data.toList.drop i:=Lib.extract_to_end s i
theorem q0f1(l:List UInt8):((rdT l).2.2=0∧rdT l=rdB l∧qecx (rdB l).1=true∧(rdB l).2.2=0)∨((rdT l).2.2=3∧rdT l=([],0,3)∧(rdB l).2.2≠0)∨((rdT l).2.2=6∧rdT l=([],0,6)∧(rdB l).2.2=0∧qecx (rdB l).1=false):=by
 unfold rdT
 by_cases h:(rdB l).2.2=0
 ·rw[if_neg (by simp[h])]
  cases hv:qecx (rdB l).1 with
  | true=>rw[if_pos rfl];exact .inl ⟨h,rfl,rfl,h⟩
  | false=>rw[if_neg (by simp)];exact .inr (.inr ⟨rfl,rfl,h,rfl⟩)
 ·rw[if_pos h];exact .inr (.inl ⟨rfl,rfl,h⟩)
theorem q3gm(l:List UInt8):(rdB l).2.1≤l.length∧(rdB l).1.length≤65535:=by
 rcases qsrz l with ⟨_,h1,h2,h3,_⟩ | h
 ·exact⟨h2,by omega⟩
 ·rw[h];exact⟨Nat.zero_le _,Nat.zero_le _⟩
theorem qslt(l:List UInt8):(rdT l).2.1≤l.length∧(rdT l).1.length≤65535:=by
 rcases q0f1 l with ⟨_,h,_⟩ | ⟨_,h,_⟩ | ⟨_,h,_⟩
 ·rw[h];exact q3gm l
 ·rw[h];exact⟨Nat.zero_le _,Nat.zero_le _⟩
 ·rw[h];exact⟨Nat.zero_le _,Nat.zero_le _⟩
theorem qif8{W W':World}{r:Option Nat}(h:W.grownBy W' r)(n:Nat):W.grownBy (W'.drewN n) r:=⟨h.os,h.tape,h.output,h.size,h.block⟩
section
variable{w:World}{cb i:Nat}{s:ByteArray}
theorem qi04(hc:Cur w cb s i 0)(hi:i≤s.size)(hm:s.size≤9223372036854775807) :
 Calls Tryz.prog 145 #[curV cb] w fun e w'=>e = .returned (qbhk ⟨0,0,(rdT (s.data.toList.drop i)).1,[]⟩)∧Cur w' cb s (i+(rdT (s.data.toList.drop i)).2.1) ((rdT (s.data.toList.drop i)).2.2:Nat)∧w.grownBy w' (some cb):=by
 have hcw:=(hc.alloc (.cells #[.pointer (some ⟨cb,0,none⟩)] 161)).alloc (.cells #[.int .i64 0,.int .u32 0,.string ⟨#[]⟩,.string ⟨#[]⟩] 25)
 have R0:=Lib.hid (RdW.made (w:=w) hc.lt)
 have RS:=Lib.hid (qdvc hcw hi hm)
 have HCW:=Lib.hid hcw
 have RD:=fun W=>q2z4 (s.extract i s.size) W (by rw[q4ad,qh3u,List.length_drop,←q4ad];omega)
 rw[qh3u] at RD
 have hk:i+(rdT (s.data.toList.drop i)).2.1≤s.size:=by
  have:=(qslt (s.data.toList.drop i)).1
  rw[List.length_drop,←q4ad] at this;omega
 generalize rdT (s.data.toList.drop i)=q at *
 obtain⟨t,k,z⟩:=q
 unfold ok3 at RD
 unfold curV
 have RD1:=Lib.hid RD
 have HK:=Lib.hid hk
 have HE:=Lib.hid hm
 have HM:=Lib.hid hm
 clear hc hi hm hcw RD hk
 go_enter Tryz.func145,Tryz.ntmps145
 go_wp2_with fail
 refine(RS.out).mono ?_
 rintro e w1 ⟨rfl,m,rfl⟩
 have R1:=Lib.hid (R0.out.step (qif8 (World.grownBy.refl _ _) m))
 have C1:=Lib.hid (HCW.out.draws m)
 clear RS HCW R0
 go_wp2_with fail
 refine(RD1.out _).mono ?_
 rintro e w2 ⟨rfl,hb⟩
 have R2:=Lib.hid (R1.out.step (q9cp hb _))
 have C2:=Lib.hid (C1.out.of_block (hb.block cb C1.out.lt))
 have c0:=R2.out.c0
 have PS:=Lib.hid (qy0t k z C2.out HK.out HM.out)
 clear hb C1 R1
 unfold curV at PS
 go_wp2_with fail
 refine(PS.out).mono ?_
 rintro e w3 ⟨rfl,hc3,hg3⟩
 have R3:=Lib.hid (R2.out.step hg3)
 have C3:=Lib.hid (hc3)
 have f0:=R3.out.fr 0
 have f1:=R3.out.fr 1
 have f2:=R3.out.fr 2
 have f3:=R3.out.fr 3
 have r0:=R3.out.r 0
 have r1:=R3.out.r 1
 have r2:=R3.out.r 2
 have r3:=R3.out.r 3
 clear hc3 hg3 R2 C2 c0 PS
 go_wp2_with fail
 obtain⟨k1,k2,k3⟩:=R3.out.fin C3.out (.int .i64 0) (.int .u32 0) (.string (bs t)) (.string ⟨#[]⟩)
 exact qlwy rfl rfl rfl rfl k1 ⟨rfl,k2,k3⟩
theorem q5dm{er:Int}(hc:Cur w cb s i er)(he:(er==0)=false)(hi:i≤s.size)(hm:s.size≤9223372036854775807) :
 Calls Tryz.prog 145 #[curV cb] w fun e w'=>e = .returned (qbhk ⟨0,0,(rdT (s.data.toList.drop i)).1,[]⟩)∧Cur w' cb s i er∧w.grownBy w' (some cb):=by
 have hcw:=(hc.alloc (.cells #[.pointer (some ⟨cb,0,none⟩)] 161)).alloc (.cells #[.int .i64 0,.int .u32 0,.string ⟨#[]⟩,.string ⟨#[]⟩] 25)
 have R0:=Lib.hid (RdW.made (w:=w) hc.lt)
 have RS:=Lib.hid (qdvc hcw hi hm)
 have HCW:=Lib.hid hcw
 have RD:=fun W=>q2z4 (s.extract i s.size) W (by rw[q4ad,qh3u,List.length_drop,←q4ad];omega)
 rw[qh3u] at RD
 have hk:i+(rdT (s.data.toList.drop i)).2.1≤s.size:=by
  have:=(qslt (s.data.toList.drop i)).1
  rw[List.length_drop,←q4ad] at this;omega
 generalize rdT (s.data.toList.drop i)=q at *
 obtain⟨t,k,z⟩:=q
 unfold ok3 at RD
 unfold curV
 have RD1:=Lib.hid RD
 have HK:=Lib.hid hk
 have HE:=Lib.hid he
 have HM:=Lib.hid hm
 clear hc hi hm hcw RD hk he
 go_enter Tryz.func145,Tryz.ntmps145
 go_wp2_with fail
 refine(RS.out).mono ?_
 rintro e w1 ⟨rfl,m,rfl⟩
 have R1:=Lib.hid (R0.out.step (qif8 (World.grownBy.refl _ _) m))
 have C1:=Lib.hid (HCW.out.draws m)
 clear RS HCW R0
 go_wp2_with fail
 refine(RD1.out _).mono ?_
 rintro e w2 ⟨rfl,hb⟩
 have R2:=Lib.hid (R1.out.step (q9cp hb _))
 have C2:=Lib.hid (C1.out.of_block (hb.block cb C1.out.lt))
 have c0:=R2.out.c0
 have PS:=Lib.hid (qzcj k z C2.out HE.out)
 clear hb C1 R1
 unfold curV at PS
 go_wp2_with fail
 refine(PS.out).mono ?_
 rintro e w3 ⟨rfl,hb3⟩
 have R3:=Lib.hid (R2.out.step (q9cp hb3 _))
 have C3:=Lib.hid (C2.out.of_block (hb3.block cb C2.out.lt))
 have f0:=R3.out.fr 0
 have f1:=R3.out.fr 1
 have f2:=R3.out.fr 2
 have f3:=R3.out.fr 3
 have r0:=R3.out.r 0
 have r1:=R3.out.r 1
 have r2:=R3.out.r 2
 have r3:=R3.out.r 3
 clear hb3 R2 C2 c0 PS
 go_wp2_with fail
 obtain⟨k1,k2,k3⟩:=R3.out.fin C3.out (.int .i64 0) (.int .u32 0) (.string (bs t)) (.string ⟨#[]⟩)
 exact qlwy rfl rfl rfl rfl k1 ⟨rfl,k2,k3⟩
theorem q6x7(hc:Cur w cb s i 0)(hi:i≤s.size)(hm:s.size≤9223372036854775807) :
 Calls Tryz.prog 146 #[curV cb] w fun e w'=>e = .returned (qbhk ⟨0,0,(rdB (s.data.toList.drop i)).1,[]⟩)∧Cur w' cb s (i+(rdB (s.data.toList.drop i)).2.1) ((rdB (s.data.toList.drop i)).2.2:Nat)∧w.grownBy w' (some cb):=by
 have hcw:=(hc.alloc (.cells #[.pointer (some ⟨cb,0,none⟩)] 161)).alloc (.cells #[.int .i64 0,.int .u32 0,.string ⟨#[]⟩,.string ⟨#[]⟩] 25)
 have R0:=Lib.hid (RdW.made (w:=w) hc.lt)
 have RS:=Lib.hid (qdvc hcw hi hm)
 have HCW:=Lib.hid hcw
 have RD:=fun W=>qgvs (s.extract i s.size) W (by rw[q4ad,qh3u,List.length_drop,←q4ad];omega)
 rw[qh3u] at RD
 have hk:i+(rdB (s.data.toList.drop i)).2.1≤s.size:=by
  have:=(q3gm (s.data.toList.drop i)).1
  rw[List.length_drop,←q4ad] at this;omega
 generalize rdB (s.data.toList.drop i)=q at *
 obtain⟨t,k,z⟩:=q
 unfold ok3 at RD
 unfold curV
 have RD1:=Lib.hid RD
 have HK:=Lib.hid hk
 have HE:=Lib.hid hm
 have HM:=Lib.hid hm
 clear hc hi hm hcw RD hk
 go_enter Tryz.func146,Tryz.ntmps146
 go_wp2_with fail
 refine(RS.out).mono ?_
 rintro e w1 ⟨rfl,m,rfl⟩
 have R1:=Lib.hid (R0.out.step (qif8 (World.grownBy.refl _ _) m))
 have C1:=Lib.hid (HCW.out.draws m)
 clear RS HCW R0
 go_wp2_with fail
 refine(RD1.out _).mono ?_
 rintro e w2 ⟨rfl,hb⟩
 have R2:=Lib.hid (R1.out.step (q9cp hb _))
 have C2:=Lib.hid (C1.out.of_block (hb.block cb C1.out.lt))
 have c0:=R2.out.c0
 have PS:=Lib.hid (qy0t k z C2.out HK.out HM.out)
 clear hb C1 R1
 unfold curV at PS
 go_wp2_with fail
 refine(PS.out).mono ?_
 rintro e w3 ⟨rfl,hc3,hg3⟩
 have R3:=Lib.hid (R2.out.step hg3)
 have C3:=Lib.hid (hc3)
 have f0:=R3.out.fr 0
 have f1:=R3.out.fr 1
 have f2:=R3.out.fr 2
 have f3:=R3.out.fr 3
 have r0:=R3.out.r 0
 have r1:=R3.out.r 1
 have r2:=R3.out.r 2
 have r3:=R3.out.r 3
 clear hc3 hg3 R2 C2 c0 PS
 go_wp2_with fail
 obtain⟨k1,k2,k3⟩:=R3.out.fin C3.out (.int .i64 0) (.int .u32 0) (.string (bs t)) (.string ⟨#[]⟩)
 exact qlwy rfl rfl rfl rfl k1 ⟨rfl,k2,k3⟩
end
theorem qips(l:List UInt8):rdN l≤l.length∧rdV l≤268435455∧(rdE l=0∨(rdN l=0∧rdV l=0∧(rdE l=3∨rdE l=5))):=by
 obtain⟨v,c,st,hr⟩:∃v n st,run 0 0 l=(v,n,st):=⟨_,_,_,rfl⟩
 obtain⟨e1,e2,e3⟩:=qa1w hr
 rcases qh9e l 0 0 with h1 | h1 | h1
 all_goals (rw[hr] at h1;simp only at h1;subst h1;simp at e1 e2 e3;rw[e1,e2,e3])
 ·exact⟨Nat.zero_le _,Nat.zero_le _,.inr ⟨rfl,rfl,.inl rfl⟩⟩
 ·obtain⟨b1,b2,b3,b4⟩:=qvpf l v c hr
  exact⟨by omega,by omega,.inl rfl⟩
 ·exact⟨Nat.zero_le _,Nat.zero_le _,.inr ⟨rfl,rfl,.inr rfl⟩⟩
section
variable{w:World}{cb i:Nat}{s:ByteArray}
theorem qdow(hc:Cur w cb s i 0)(hi:i≤s.size)(hm:s.size≤9223372036854775807) :
 Calls Tryz.prog 144 #[curV cb] w fun e w'=>e = .returned (qbhk ⟨0,rdV (s.data.toList.drop i),[],[]⟩)∧Cur w' cb s (i+rdN (s.data.toList.drop i)) (rdE (s.data.toList.drop i):Nat)∧w.grownBy w' (some cb):=by
 have hcw:=(hc.alloc (.cells #[.pointer (some ⟨cb,0,none⟩)] 161)).alloc (.cells #[.int .i64 0,.int .u32 0,.string ⟨#[]⟩,.string ⟨#[]⟩] 25)
 have R0:=Lib.hid (RdW.made (w:=w) hc.lt)
 have RS:=Lib.hid (qdvc hcw hi hm)
 have HCW:=Lib.hid hcw
 have RD:=fun W=>q6w6 (s.extract i s.size) W (by rw[q4ad,qh3u,List.length_drop,←q4ad];omega)
 rw[qh3u] at RD
 unfold qxfh q51h at RD
 obtain⟨q1,q2,_⟩:=qips (s.data.toList.drop i)
 rw[List.length_drop,←q4ad] at q1
 have hk:i+rdN (s.data.toList.drop i)≤s.size:=by omega
 generalize rdN (s.data.toList.drop i)=k at *
 generalize rdE (s.data.toList.drop i)=z at *
 generalize rdV (s.data.toList.drop i)=v at *
 unfold curV
 have hw:IntKind.u32.wrap (v:Int)=(v:Int):=by simp only[IntKind.wrap_u32];omega
 have RD1:=Lib.hid RD
 have HK:=Lib.hid hk
 have HM:=Lib.hid hm
 clear hc hi hm hcw RD hk q1 q2
 go_enter Tryz.func144,Tryz.ntmps144
 go_wp2_with fail
 refine(RS.out).mono ?_
 rintro e w1 ⟨rfl,m,rfl⟩
 have R1:=Lib.hid (R0.out.step (qif8 (World.grownBy.refl _ _) m))
 have C1:=Lib.hid (HCW.out.draws m)
 clear RS HCW R0
 go_wp2_with fail
 refine(RD1.out _).mono ?_
 rintro e w2 ⟨rfl,hb⟩
 have R2:=Lib.hid (R1.out.step (q9cp hb _))
 have C2:=Lib.hid (C1.out.of_block (hb.block cb C1.out.lt))
 have c0:=R2.out.c0
 have PS:=Lib.hid (qy0t k z C2.out HK.out HM.out)
 clear hb C1 R1
 unfold curV at PS
 go_wp2_with fail
 refine(PS.out).mono ?_
 rintro e w3 ⟨rfl,hc3,hg3⟩
 have R3:=Lib.hid (R2.out.step hg3)
 have C3:=Lib.hid hc3
 have f0:=R3.out.fr 0
 have f1:=R3.out.fr 1
 have f2:=R3.out.fr 2
 have f3:=R3.out.fr 3
 have r0:=R3.out.r 0
 have r1:=R3.out.r 1
 have r2:=R3.out.r 2
 have r3:=R3.out.r 3
 clear hc3 hg3 R2 C2 c0 PS
 go_wp2_with fail
 obtain⟨k1,k2,k3⟩:=R3.out.fin C3.out (.int .i64 0) (.int .u32 v) (.string ⟨#[]⟩) (.string ⟨#[]⟩)
 exact qlwy rfl rfl rfl rfl k1 ⟨rfl,k2,k3⟩
end
end Go.Proofs.YtbklidpadffpgaaGreat
