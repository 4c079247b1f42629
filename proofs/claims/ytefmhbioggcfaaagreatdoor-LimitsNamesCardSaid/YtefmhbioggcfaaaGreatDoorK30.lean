/- The contracts of prop's cursor: what reads a value of each shape. Condition: the bytes are no more than an int says. -/
import Derived.Test.YtefmhbioggcfaaaGreatDoorK28
import Derived.Test.YtefmhbioggcfaaaGreatDoorK29
set_option maxHeartbeats 4000000
set_option maxRecDepth 100000
namespace Go.Proofs.YtefmhbioggcfaaaGreatDoor
open Lib(hid)
open Proofs.Tryz
open Go.RowKit
def q585:List (Int×Value):=[(7,.func (.func 266) #[] #[]),(6,.func (.func 265) #[] #[]),(5,.func (.func 264) #[] #[]),(4,.func (.func 263) #[] #[]),(3,.func (.func 262) #[] #[]),(2,.func (.func 261) #[] #[]),(1,.func (.func 260) #[] #[])]
def qp0k(w:World)(b:Nat):Prop:=qmfc prog 3 w b .nilFunc q585
theorem qhy7(w:World):Calls prog 242 #[] w fun e w'=>e=.returned (.map (some w.heap.size))/\qp0k w' w.heap.size/\Below w.heap.size w w':=by
 have hmm:=@run_makeMap prog;have hG:MapG prog 3 w (w.alloc (.map #[] 0)) w.heap.size .nilFunc []:=⟨qmfc.made _ _ _ _,(Below.refl _ _).alloc (Nat.le_refl _) _,Nat.le_refl _⟩
 go_in;go_wp2_with (refine q32q rfl _ _ _ 260 rfl 3 274 underlying3 underlying260 _ _ _ rfl hG (by simp[maxLen]) _ _ rfl rfl (by decide) ?_;clear hG;intro w1 hG);go_ret;exact⟨rfl,hG.1,hG.2.1⟩
theorem qawq(W:World):(zeroValue 274).run prog W=.ok .nilFunc W:=by kernel_rfl
theorem qp0k.look{w:World}{b:Nat}(h:qp0k w b)(s:Int)(h0:-9223372036854775808<=s)(h1:s<=9223372036854775807) :
 (Instr.lookup 260 (.map (some b)) (.int .i64 s) false).run prog w=.ok (q1n3 .nilFunc q585 s) w:=
 qmfc.look h underlying3 underlying260 (qawq w) (qs52 h0 h1)
def curV(cb:Nat):Value := .agg #[.pointer (some ⟨cb,0,none⟩)]
def RdS(cb:Nat)(s:ByteArray)(i:Nat)(id:Int)(W:World)(e:Ending)(W':World):Prop:=
 ∃(p:Pr) (i' e':Nat),e=.returned (qbhk p)/\Cur W' cb s i' (e':Nat)/\W.grownBy W' (some cb)/\i'<=s.size/\
  (qij7 id (s.data.toList.drop i)).2.2=(if e'=3 then 5 else e')/\
  (e'=0->i'=i+(qij7 id (s.data.toList.drop i)).2.1/\qij7 id (s.data.toList.drop i)=(⟨id,p.n,p.text,p.value⟩,i'-i,0)/\p.n<4294967296/\p.text.length<=65535/\p.value.length<=65535)
section
variable{w:World}{cb i:Nat}{s:ByteArray}
theorem Cur.alloc{e:Int}(h:Cur w cb s i e)(o:Obj):Cur (w.alloc o) cb s i e:=h.of_block (heap_alloc_old _ _ h.lt)
theorem qy0t(k:Nat)(f:Int)(hc:Cur w cb s i 0)(hi:i+k<=s.size)(hm:s.size<=9223372036854775807) :
 Calls prog 282 #[curV cb,.int .i64 k,.int .i64 f] w fun e' w'=>e'=.returned (.tuple #[])/\Cur w' cb s (i+k) f/\w.grownBy w' (some cb):=by
 have hc1:=hc.alloc (.cells #[.pointer (some ⟨cb,0,none⟩)] 259);have TK:=hid (qpai k hc1 hi hm);have hne:cb≠w.heap.size:=Nat.ne_of_lt hc.lt;have hb0:(w.alloc (.cells #[.pointer (some ⟨cb,0,none⟩)] 259)).heap[w.heap.size]?=some (.cells #[.pointer (some ⟨cb,0,none⟩)] 259 (0,0)):=heap_alloc_new w _;have G0:=hid (World.grownBy_alloc w (.cells #[.pointer (some ⟨cb,0,none⟩)] 259) (some cb));have HB0:=hid hb0;have SZ:=hid (World.size_alloc w (.cells #[.pointer (some ⟨cb,0,none⟩)] 259));unfold curV;clear hc1 hi hb0;go_in;go_wp2_with fail;refine(TK.out).mono ?_;rintro e w2 ⟨rfl,hc2,hg2⟩;have hb2:=(hg2.block w.heap.size (by rw[SZ.out];omega) (fun e=>hne (Option.some.inj e).symm)).trans HB0.out;have c0:w2.cell? ⟨w.heap.size,0,none⟩=some (.pointer (some ⟨cb,0,none⟩)):=cell_of_row _ _ _ _ _ _ hb2;have FL:=hid (qxdm f hc2);have G2:=hid (qo6d G0.out hg2);clear hb2 hc2 hg2 TK;go_wp2_with fail;refine(FL.out).mono ?_;rintro e w3 ⟨rfl,hc3,hg3⟩;have HC3:=hid hc3;have G3:=hid (qo6d G2.out hg3);clear hc3 hg3 c0;go_wp2_with fail
 go_end0
 exact⟨rfl,HC3.out,G3.out⟩
theorem qzcj(k:Nat)(f:Int){e:Int}(hc:Cur w cb s i e)(he:(e==0)=false) :
 Calls prog 282 #[curV cb,.int .i64 k,.int .i64 f] w fun e' w'=>e'=.returned (.tuple #[])/\Below w.heap.size w w':=by
 have hc1:=hc.alloc (.cells #[.pointer (some ⟨cb,0,none⟩)] 259);have TK:=hid (q95z (k:Int) hc1 he);have FL:=hid (fail_no f hc1 he);unfold curV;clear hc1;have B1:=hid (show Below w.heap.size w (w.alloc (.cells #[.pointer (some ⟨cb,0,none⟩)] 259)) from(Below.refl _ _).alloc (Nat.le_refl _) _);go_in;go_wp2_with fail;refine(TK.out).mono ?_;rintro e w2 ⟨rfl,rfl⟩;go_wp2_with fail;refine(FL.out).mono ?_;rintro e w3 ⟨rfl,rfl⟩;go_wp2_with fail
 go_end0
 exact⟨rfl,B1.out⟩
end
theorem qelx(s:ByteArray)(i c:Nat)(_h:i+c<=s.size)(hc:c<=8):qf3l (s.extract i (i+c))=num ((s.data.toList.drop i).take c):=by
 have e:(s.extract i (i+c)).data.toList=(s.data.toList.drop i).take c:=by simp[List.extract_eq_take_drop]
 have e2:(s.extract i (i+c)).size<=8:=by rw[q4ad,e,List.length_take];omega
 unfold qf3l;rw[e,show(s.extract i (i+c)).size-8=0 by omega];rfl
def RdW(w W:World)(cb:Nat):Prop:=
 w.grownBy W (some cb)/\W.heap[w.heap.size]?=some (.cells #[.pointer (some ⟨cb,0,none⟩)] 259 (0,0))/\W.heap[w.heap.size+1]?=some (.cells #[.int .i64 0,.int .u32 0,.string ⟨#[]⟩,.string ⟨#[]⟩] 82 (0,0))/\cb<w.heap.size/\w.heap.size+2<=W.heap.size
section
variable{w W W':World}{cb:Nat}
theorem RdW.made(h:cb<w.heap.size):RdW w ((w.alloc (.cells #[.pointer (some ⟨cb,0,none⟩)] 259)).alloc (.cells #[.int .i64 0,.int .u32 0,.string ⟨#[]⟩,.string ⟨#[]⟩] 82)) cb:=by
 refine⟨qo6d (World.grownBy_alloc _ _ _) (World.grownBy_alloc _ _ _),(heap_alloc_old _ _ (by simp)).trans (heap_alloc_new w _),?_,h,by simp⟩
 have:=heap_alloc_new (w.alloc (.cells #[.pointer (some ⟨cb,0,none⟩)] 259)) (.cells #[.int .i64 0,.int .u32 0,.string ⟨#[]⟩,.string ⟨#[]⟩] 82)
 rwa [World.size_alloc] at this
theorem RdW.step(h:RdW w W cb)(hg:W.grownBy W' (some cb)):RdW w W' cb:=by obtain⟨h1,h2,h3,h4,h5⟩:=h;exact⟨qo6d h1 hg,(hg.block _ (by omega) (fun e=>by have:=Option.some.inj e;omega)).trans h2,(hg.block _ (by omega) (fun e=>by have:=Option.some.inj e;omega)).trans h3,h4,Nat.le_trans h5 hg.size⟩
theorem RdW.c0(h:RdW w W cb):W.cell? ⟨w.heap.size,0,none⟩=some (.pointer (some ⟨cb,0,none⟩)):=cell_of_row _ _ _ _ _ _ h.2.1
theorem RdW.fr(h:RdW w W cb)(j:Nat):W.frozen? ⟨w.heap.size+1,j,none⟩=false:=by have h1:=h.2.2.1;simp[World.frozen?,h1]
theorem RdW.r(h:RdW w W cb)(j:Nat):W.cell? ⟨w.heap.size+1,j,none⟩=(#[.int .i64 0,.int .u32 0,.string ⟨#[]⟩,.string ⟨#[]⟩]:Array Value)[j]? := cell_of_row _ _ _ _ _ _ h.2.2.1
end
def set4(W:World)(B:Nat)(a b c d:Value):World:=(((W.setCell ⟨B,0,none⟩ a).setCell ⟨B,1,none⟩ b).setCell ⟨B,2,none⟩ c).setCell ⟨B,3,none⟩ d
theorem qgwu{W:World}{B:Nat}{t:TypeId}{x0 x1 x2 x3:Value}(h:W.heap[B]?=some (.cells #[x0,x1,x2,x3] t (0,0)))(a b c d:Value):(set4 W B a b c d).heap[B]?=some (.cells #[a,b,c,d] t (0,0)):=by have h1:=qlvy h 0 a;have h2:=qlvy h1 1 b;have h3:=qlvy h2 2 c;exact qlvy h3 3 d
theorem qai2(W:World)(B:Nat)(a b c d:Value)(k:Nat)(hk:k≠B):(set4 W B a b c d).heap[k]?=W.heap[k]? := by unfold set4;rw[Below.heap_setCell _ _ _ _ hk,Below.heap_setCell _ _ _ _ hk,Below.heap_setCell _ _ _ _ hk,Below.heap_setCell _ _ _ _ hk]
theorem quyt{w W:World}{B:Nat}{r:Option Nat}(h:w.grownBy W r)(hB:w.heap.size<=B)(a b c d:Value):w.grownBy (set4 W B a b c d) r:=
 ⟨h.os,h.tape,h.output,by have:=h.size;unfold set4;simpa [World.setCell] using this,fun k hk hne=>(qai2 W B a b c d k (by omega)).trans (h.block k hk hne)⟩
theorem RdW.fin{w W:World}{cb i:Nat}{s:ByteArray}{e:Int}(h:RdW w W cb)(hc:Cur W cb s i e)(a b c d:Value) :
 (set4 W (w.heap.size+1) a b c d).heap[w.heap.size+1]?=some (.cells #[a,b,c,d] 82 (0,0))/\Cur (set4 W (w.heap.size+1) a b c d) cb s i e/\w.grownBy (set4 W (w.heap.size+1) a b c d) (some cb):=
 ⟨qgwu h.2.2.1 a b c d,hc.of_block (qai2 _ _ _ _ _ _ _ (by have:=h.2.2.2.1;omega)),quyt h.1 (by omega) a b c d⟩
theorem qlwy{fn:Func}{R:Ending->World->Prop}{a:Act}{W:World}{p:Tmp}{B:Nat}{cs:Array Value}(h:fn.results=#[.cell p 82])(hp:a.tmps.getD p undef=.pointer (some ⟨B,0,none⟩))(hd:a.defers=[])(hcs:cs.size=4)
 (hg:W.heap[B]?=some (.cells cs 82 (0,0))) (hR:R (.returned (.agg cs)) W):bodyPost prog fn R .ret a W:=
 bodyPost_ret (results_cell_row h a.tmps W B 82 cs (0,0) _ hp hg underlying82 rfl (by rw[hcs];kernel_rfl)) hd hR
theorem qak3{w:World}{cb i:Nat}{s:ByteArray}(c:Nat)(hc:Cur w cb s i 0)(hi:i<=s.size)(hm:s.size<=9223372036854775807)(h4:c<=4)(h1:1<=c) :
 Calls prog 281 #[curV cb,.int .i64 c] w fun e w'=>∃(n i':Nat) (e':Nat),e=.returned (qbhk ⟨0,n,[],[]⟩)/\Cur w' cb s i' (e':Nat)/\w.grownBy w' (some cb)/\((s.size-i<c/\n=0/\i'=i/\e'=3)\/(i+c<=s.size/\n=num ((s.data.toList.drop i).take c)/\i'=i+c/\e'=0)):=by
 have hcw:=(hc.alloc (.cells #[.pointer (some ⟨cb,0,none⟩)] 259)).alloc (.cells #[.int .i64 0,.int .u32 0,.string ⟨#[]⟩,.string ⟨#[]⟩] 82);have R0:=hid (RdW.made (w:=w) hc.lt);have main:∀(n i' e':Nat),n<4294967296->Calls prog 41 #[.pointer (some ⟨cb,0,none⟩),.int .i64 c] ((w.alloc (.cells #[.pointer (some ⟨cb,0,none⟩)] 259)).alloc (.cells #[.int .i64 0,.int .u32 0,.string ⟨#[]⟩,.string ⟨#[]⟩] 82))
  (fun e w'=>e=.returned (.int .u64 n)/\Cur w' cb s i' (e':Nat)/\((w.alloc (.cells #[.pointer (some ⟨cb,0,none⟩)] 259)).alloc (.cells #[.int .i64 0,.int .u32 0,.string ⟨#[]⟩,.string ⟨#[]⟩] 82)).grownBy w' (some cb))->
  Calls prog 281 #[curV cb,.int .i64 c] w fun e w'=>e=.returned (qbhk ⟨0,n,[],[]⟩)/\Cur w' cb s i' (e':Nat)/\w.grownBy w' (some cb):=by
  intro n i' e' hlt NB0;have NB:=hid NB0;have hw:IntKind.u32.wrap (n:Int)=(n:Int):=by simp only[IntKind.wrap_u32];omega
  unfold curV;clear hcw hc hlt hi h1 h4 NB0;go_in;go_wp2_with fail;refine(NB.out).mono ?_;rintro e w2 ⟨rfl,hc2,hg2⟩;have R1:=hid (R0.out.step hg2);have HC:=hid hc2;have f0:=R1.out.fr 0;have f1:=R1.out.fr 1;have f2:=R1.out.fr 2;have f3:=R1.out.fr 3;have r0:=R1.out.r 0;have r1:=R1.out.r 1;have r2:=R1.out.r 2;have r3:=R1.out.r 3;clear hc2 hg2;go_wp2_with fail;obtain⟨k1,k2,k3⟩:=R1.out.fin HC.out (.int .i64 0) (.int .u32 n) (.string ⟨#[]⟩) (.string ⟨#[]⟩);exact qlwy rfl rfl rfl rfl k1 ⟨rfl,k2,k3⟩
 by_cases hp:i+c<=s.size
 ·have NB:=qvi6 c hcw hp hm;rw[qelx s i c hp (by omega)] at NB;have hlt:num ((s.data.toList.drop i).take c)<4294967296:=by
   have h1:=qn9h ((s.data.toList.drop i).take c);have h2:256^((s.data.toList.drop i).take c).length<=256^4:=Nat.pow_le_pow_right (by decide) (by rw[List.length_take];omega);have h3:256^4=4294967296:=by decide
   omega
  exact(main _ (i+c) 0 hlt NB).mono fun e w' ⟨k1,k2,k3⟩=>⟨_,_,_,k1,k2,k3,.inr ⟨hp,rfl,rfl,rfl⟩⟩
 ·have NB:=q6bm (c:Int) hcw hi hm (by omega);exact(main 0 i 3 (by decide) NB).mono fun e w' ⟨k1,k2,k3⟩=>⟨_,_,_,k1,k2,k3,.inl ⟨by omega,rfl,rfl,rfl⟩⟩
theorem qh3u(s:ByteArray)(i:Nat):(s.extract i s.size).data.toList=s.data.toList.drop i:=Lib.extract_to_end s i
theorem q0f1(l:List UInt8):((rdT l).2.2=0/\rdT l=rdB l/\qecx (rdB l).1=true/\(rdB l).2.2=0)\/((rdT l).2.2=3/\rdT l=([],0,3)/\(rdB l).2.2≠0)\/((rdT l).2.2=6/\rdT l=([],0,6)/\(rdB l).2.2=0/\qecx (rdB l).1=false):=by
 unfold rdT;by_cases h:(rdB l).2.2=0
 ·rw[if_neg (by simp[h])];cases hv:qecx (rdB l).1 with
  |true=>rw[if_pos rfl];exact .inl ⟨h,rfl,rfl,h⟩
  |false=>rw[if_neg (by simp)];exact .inr (.inr ⟨rfl,rfl,h,rfl⟩)
 ·rw[if_pos h];exact .inr (.inl ⟨rfl,rfl,h⟩)
theorem q3gm(l:List UInt8):(rdB l).2.1<=l.length/\(rdB l).1.length<=65535:=by
 rcases qsrz l with ⟨_,h1,h2,h3,_⟩|h
 ·exact⟨h2,by omega⟩
 ·rw[h];exact⟨Nat.zero_le _,Nat.zero_le _⟩
theorem qslt(l:List UInt8):(rdT l).2.1<=l.length/\(rdT l).1.length<=65535:=by
 rcases q0f1 l with ⟨_,h,_⟩|⟨_,h,_⟩|⟨_,h,_⟩
 ·rw[h];exact q3gm l
 ·rw[h];exact⟨Nat.zero_le _,Nat.zero_le _⟩
 ·rw[h];exact⟨Nat.zero_le _,Nat.zero_le _⟩
theorem qif8{W W':World}{r:Option Nat}(h:W.grownBy W' r)(n:Nat):W.grownBy (W'.drewN n) r:=⟨h.os,h.tape,h.output,h.size,h.block⟩
section
variable{w:World}{cb i:Nat}{s:ByteArray}
theorem qi04(hc:Cur w cb s i 0)(hi:i<=s.size)(hm:s.size<=9223372036854775807) :
 Calls prog 264 #[curV cb] w fun e w'=>e=.returned (qbhk ⟨0,0,(rdT (s.data.toList.drop i)).1,[]⟩)/\Cur w' cb s (i+(rdT (s.data.toList.drop i)).2.1) ((rdT (s.data.toList.drop i)).2.2:Nat)/\w.grownBy w' (some cb):=by
 have hcw:=(hc.alloc (.cells #[.pointer (some ⟨cb,0,none⟩)] 259)).alloc (.cells #[.int .i64 0,.int .u32 0,.string ⟨#[]⟩,.string ⟨#[]⟩] 82);have R0:=hid (RdW.made (w:=w) hc.lt);have RS:=hid (qdvc hcw hi hm);have HCW:=hid hcw;have RD:=fun W=>q2z4 (s.extract i s.size) W (by rw[q4ad,qh3u,List.length_drop,<-q4ad];omega);rw[qh3u] at RD;have hk:i+(rdT (s.data.toList.drop i)).2.1<=s.size:=by
  have:=(qslt (s.data.toList.drop i)).1
  rw[List.length_drop,<-q4ad] at this;omega
 generalize rdT (s.data.toList.drop i)=q at *;obtain⟨t,k,z⟩:=q;unfold ok3 at RD;unfold curV;have RD1:=hid RD;have HK:=hid hk;have HE:=hid hm;have HM:=hid hm;clear hc hi hm hcw RD hk;go_in;go_wp2_with fail;refine(RS.out).mono ?_;rintro e w1 ⟨rfl,m,rfl⟩;have R1:=hid (R0.out.step (qif8 (World.grownBy.refl _ _) m));have C1:=hid (HCW.out.draws m);clear RS HCW R0;go_wp2_with fail;refine(RD1.out _).mono ?_;rintro e w2 ⟨rfl,hb⟩;have R2:=hid (R1.out.step (q9cp hb _));have C2:=hid (C1.out.of_block (hb.block cb C1.out.lt));have c0:=R2.out.c0;have PS:=hid (qy0t k z C2.out HK.out HM.out);clear hb C1 R1;unfold curV at PS;go_wp2_with fail;refine(PS.out).mono ?_;rintro e w3 ⟨rfl,hc3,hg3⟩;have R3:=hid (R2.out.step hg3);have C3:=hid (hc3);have f0:=R3.out.fr 0;have f1:=R3.out.fr 1;have f2:=R3.out.fr 2;have f3:=R3.out.fr 3;have r0:=R3.out.r 0;have r1:=R3.out.r 1;have r2:=R3.out.r 2;have r3:=R3.out.r 3;clear hc3 hg3 R2 C2 c0 PS;go_wp2_with fail;obtain⟨k1,k2,k3⟩:=R3.out.fin C3.out (.int .i64 0) (.int .u32 0) (.string (bs t)) (.string ⟨#[]⟩);exact qlwy rfl rfl rfl rfl k1 ⟨rfl,k2,k3⟩
theorem q5dm{er:Int}(hc:Cur w cb s i er)(he:(er==0)=false)(hi:i<=s.size)(hm:s.size<=9223372036854775807) :
 Calls prog 264 #[curV cb] w fun e w'=>e=.returned (qbhk ⟨0,0,(rdT (s.data.toList.drop i)).1,[]⟩)/\Cur w' cb s i er/\w.grownBy w' (some cb):=by
 have hcw:=(hc.alloc (.cells #[.pointer (some ⟨cb,0,none⟩)] 259)).alloc (.cells #[.int .i64 0,.int .u32 0,.string ⟨#[]⟩,.string ⟨#[]⟩] 82);have R0:=hid (RdW.made (w:=w) hc.lt);have RS:=hid (qdvc hcw hi hm);have HCW:=hid hcw;have RD:=fun W=>q2z4 (s.extract i s.size) W (by rw[q4ad,qh3u,List.length_drop,<-q4ad];omega);rw[qh3u] at RD;have hk:i+(rdT (s.data.toList.drop i)).2.1<=s.size:=by
  have:=(qslt (s.data.toList.drop i)).1
  rw[List.length_drop,<-q4ad] at this;omega
 generalize rdT (s.data.toList.drop i)=q at *;obtain⟨t,k,z⟩:=q;unfold ok3 at RD;unfold curV;have RD1:=hid RD;have HK:=hid hk;have HE:=hid he;have HM:=hid hm;clear hc hi hm hcw RD hk he;go_in;go_wp2_with fail;refine(RS.out).mono ?_;rintro e w1 ⟨rfl,m,rfl⟩;have R1:=hid (R0.out.step (qif8 (World.grownBy.refl _ _) m));have C1:=hid (HCW.out.draws m);clear RS HCW R0;go_wp2_with fail;refine(RD1.out _).mono ?_;rintro e w2 ⟨rfl,hb⟩;have R2:=hid (R1.out.step (q9cp hb _));have C2:=hid (C1.out.of_block (hb.block cb C1.out.lt));have c0:=R2.out.c0;have PS:=hid (qzcj k z C2.out HE.out);clear hb C1 R1;unfold curV at PS;go_wp2_with fail;refine(PS.out).mono ?_;rintro e w3 ⟨rfl,hb3⟩;have R3:=hid (R2.out.step (q9cp hb3 _));have C3:=hid (C2.out.of_block (hb3.block cb C2.out.lt));have f0:=R3.out.fr 0;have f1:=R3.out.fr 1;have f2:=R3.out.fr 2;have f3:=R3.out.fr 3;have r0:=R3.out.r 0;have r1:=R3.out.r 1;have r2:=R3.out.r 2;have r3:=R3.out.r 3;clear hb3 R2 C2 c0 PS;go_wp2_with fail;obtain⟨k1,k2,k3⟩:=R3.out.fin C3.out (.int .i64 0) (.int .u32 0) (.string (bs t)) (.string ⟨#[]⟩);exact qlwy rfl rfl rfl rfl k1 ⟨rfl,k2,k3⟩
theorem q6x7(hc:Cur w cb s i 0)(hi:i<=s.size)(hm:s.size<=9223372036854775807) :
 Calls prog 265 #[curV cb] w fun e w'=>e=.returned (qbhk ⟨0,0,(rdB (s.data.toList.drop i)).1,[]⟩)/\Cur w' cb s (i+(rdB (s.data.toList.drop i)).2.1) ((rdB (s.data.toList.drop i)).2.2:Nat)/\w.grownBy w' (some cb):=by
 have hcw:=(hc.alloc (.cells #[.pointer (some ⟨cb,0,none⟩)] 259)).alloc (.cells #[.int .i64 0,.int .u32 0,.string ⟨#[]⟩,.string ⟨#[]⟩] 82);have R0:=hid (RdW.made (w:=w) hc.lt);have RS:=hid (qdvc hcw hi hm);have HCW:=hid hcw;have RD:=fun W=>qgvs (s.extract i s.size) W (by rw[q4ad,qh3u,List.length_drop,<-q4ad];omega);rw[qh3u] at RD;have hk:i+(rdB (s.data.toList.drop i)).2.1<=s.size:=by
  have:=(q3gm (s.data.toList.drop i)).1
  rw[List.length_drop,<-q4ad] at this;omega
 generalize rdB (s.data.toList.drop i)=q at *;obtain⟨t,k,z⟩:=q;unfold ok3 at RD;unfold curV;have RD1:=hid RD;have HK:=hid hk;have HE:=hid hm;have HM:=hid hm;clear hc hi hm hcw RD hk;go_in;go_wp2_with fail;refine(RS.out).mono ?_;rintro e w1 ⟨rfl,m,rfl⟩;have R1:=hid (R0.out.step (qif8 (World.grownBy.refl _ _) m));have C1:=hid (HCW.out.draws m);clear RS HCW R0;go_wp2_with fail;refine(RD1.out _).mono ?_;rintro e w2 ⟨rfl,hb⟩;have R2:=hid (R1.out.step (q9cp hb _));have C2:=hid (C1.out.of_block (hb.block cb C1.out.lt));have c0:=R2.out.c0;have PS:=hid (qy0t k z C2.out HK.out HM.out);clear hb C1 R1;unfold curV at PS;go_wp2_with fail;refine(PS.out).mono ?_;rintro e w3 ⟨rfl,hc3,hg3⟩;have R3:=hid (R2.out.step hg3);have C3:=hid (hc3);have f0:=R3.out.fr 0;have f1:=R3.out.fr 1;have f2:=R3.out.fr 2;have f3:=R3.out.fr 3;have r0:=R3.out.r 0;have r1:=R3.out.r 1;have r2:=R3.out.r 2;have r3:=R3.out.r 3;clear hc3 hg3 R2 C2 c0 PS;go_wp2_with fail;obtain⟨k1,k2,k3⟩:=R3.out.fin C3.out (.int .i64 0) (.int .u32 0) (.string (bs t)) (.string ⟨#[]⟩);exact qlwy rfl rfl rfl rfl k1 ⟨rfl,k2,k3⟩
end
theorem qips(l:List UInt8):rdN l<=l.length/\rdV l<=268435455/\(rdE l=0\/(rdN l=0/\rdV l=0/\(rdE l=3\/rdE l=5))):=by
 obtain⟨v,c,st,hr⟩:∃v n st,run 0 0 l=(v,n,st):=⟨_,_,_,rfl⟩
 obtain⟨e1,e2,e3⟩:=rd_of hr;rcases qh9e l 0 0 with h1|h1|h1
 all_goals (rw[hr] at h1;simp only at h1;subst h1;simp at e1 e2 e3;rw[e1,e2,e3])
 ·exact⟨Nat.zero_le _,Nat.zero_le _,.inr ⟨rfl,rfl,.inl rfl⟩⟩
 ·obtain⟨b1,b2,b3,b4⟩:=qvpf l v c hr;exact⟨by omega,by omega,.inl rfl⟩
 ·exact⟨Nat.zero_le _,Nat.zero_le _,.inr ⟨rfl,rfl,.inr rfl⟩⟩
section
variable{w:World}{cb i:Nat}{s:ByteArray}
theorem qdow(hc:Cur w cb s i 0)(hi:i<=s.size)(hm:s.size<=9223372036854775807) :
 Calls prog 263 #[curV cb] w fun e w'=>e=.returned (qbhk ⟨0,rdV (s.data.toList.drop i),[],[]⟩)/\Cur w' cb s (i+rdN (s.data.toList.drop i)) (rdE (s.data.toList.drop i):Nat)/\w.grownBy w' (some cb):=by
 have hcw:=(hc.alloc (.cells #[.pointer (some ⟨cb,0,none⟩)] 259)).alloc (.cells #[.int .i64 0,.int .u32 0,.string ⟨#[]⟩,.string ⟨#[]⟩] 82);have R0:=hid (RdW.made (w:=w) hc.lt);have RS:=hid (qdvc hcw hi hm);have HCW:=hid hcw;have RD:=fun W=>q6w6 (s.extract i s.size) W (by rw[q4ad,qh3u,List.length_drop,<-q4ad];omega);rw[qh3u] at RD;unfold qxfh q51h at RD;obtain⟨q1,q2,_⟩:=qips (s.data.toList.drop i);rw[List.length_drop,<-q4ad] at q1;have hk:i+rdN (s.data.toList.drop i)<=s.size:=by omega
 generalize rdN (s.data.toList.drop i)=k at *;generalize rdE (s.data.toList.drop i)=z at *;generalize rdV (s.data.toList.drop i)=v at *;unfold curV;have hw:IntKind.u32.wrap (v:Int)=(v:Int):=by simp only[IntKind.wrap_u32];omega
 have RD1:=hid RD;have HK:=hid hk;have HM:=hid hm;clear hc hi hm hcw RD hk q1 q2;go_in;go_wp2_with fail;refine(RS.out).mono ?_;rintro e w1 ⟨rfl,m,rfl⟩;have R1:=hid (R0.out.step (qif8 (World.grownBy.refl _ _) m));have C1:=hid (HCW.out.draws m);clear RS HCW R0;go_wp2_with fail;refine(RD1.out _).mono ?_;rintro e w2 ⟨rfl,hb⟩;have R2:=hid (R1.out.step (q9cp hb _));have C2:=hid (C1.out.of_block (hb.block cb C1.out.lt));have c0:=R2.out.c0;have PS:=hid (qy0t k z C2.out HK.out HM.out);clear hb C1 R1;unfold curV at PS;go_wp2_with fail;refine(PS.out).mono ?_;rintro e w3 ⟨rfl,hc3,hg3⟩;have R3:=hid (R2.out.step hg3);have C3:=hid hc3;have f0:=R3.out.fr 0;have f1:=R3.out.fr 1;have f2:=R3.out.fr 2;have f3:=R3.out.fr 3;have r0:=R3.out.r 0;have r1:=R3.out.r 1;have r2:=R3.out.r 2;have r3:=R3.out.r 3;clear hc3 hg3 R2 C2 c0 PS;go_wp2_with fail;obtain⟨k1,k2,k3⟩:=R3.out.fin C3.out (.int .i64 0) (.int .u32 v) (.string ⟨#[]⟩) (.string ⟨#[]⟩);exact qlwy rfl rfl rfl rfl k1 ⟨rfl,k2,k3⟩
end
def CsAt(W:World)(cb:Nat)(s:ByteArray)(x:Cs):Prop:=∃i,i<=s.size/\Cur W cb s i (x.e:Nat)/\s.data.toList.drop i=x.r
section
variable{w W W':World}{cb:Nat}{s:ByteArray}{x:Cs}
theorem CsAt.lt(h:CsAt W cb s x):cb<W.heap.size:=by obtain⟨i,_,hc,_⟩:=h;exact hc.lt
theorem CsAt.of_block(h:CsAt W cb s x)(hb:W'.heap[cb]?=W.heap[cb]?):CsAt W' cb s x:=by obtain⟨i,hi,hc,hr⟩:=h;exact⟨i,hi,hc.of_block hb,hr⟩
theorem CsAt.alloc(h:CsAt W cb s x)(o:Obj):CsAt (W.alloc o) cb s x:=h.of_block (heap_alloc_old _ _ h.lt)
theorem CsAt.below(h:CsAt W cb s x)(hb:Below W.heap.size W W'):CsAt W' cb s x:=h.of_block (hb.block cb h.lt)
theorem CsAt.draws(h:CsAt W cb s x)(n:Nat):CsAt (W.drewN n) cb s x:=h
theorem CsAt.len(h:CsAt W cb s x):x.r.length<=s.size:=by obtain⟨i,hi,_,hr⟩:=h;rw[<-hr,List.length_drop,<-q4ad];omega
theorem q31q(s:ByteArray)(i n:Nat):s.extract i (i+n)=bs ((s.data.toList.drop i).take n):=by apply ByteArray.ext;apply Array.ext';simp[bs,List.extract_eq_take_drop]
theorem qgtr(n:Nat)(hm:s.size<=9223372036854775807)(h:CsAt w cb s x) :
 Calls prog 53 #[.pointer (some ⟨cb,0,none⟩),.int .i64 n] w fun e w'=>e=.returned (.string (bs (x.take n).1))/\CsAt w' cb s (x.take n).2/\w.grownBy w' (some cb):=by
 obtain⟨i,hi,hc,hr⟩:=h;have hl:x.r.length=s.size-i:=by rw[<-hr,List.length_drop,<-q4ad]
 unfold Cs.take;by_cases he:x.e=0
 ·rw[if_neg (by simpa using he)];rw[he] at hc;by_cases hn:x.r.length<n
  ·rw[if_pos hn];refine(ql8f (n:Int) hc hi hm (by omega)).mono fun e w' ⟨h1,h2,h3⟩=>⟨h1,⟨i,hi,h2,hr⟩,h3⟩
  ·rw[if_neg hn];refine(qpai n hc (by omega) hm).mono fun e w' ⟨h1,h2,h3⟩=>⟨?_,⟨i+n,by omega,h2,?_⟩,h3⟩
   ·rw[h1,q31q,hr]
   ·rw[<-hr,List.drop_drop]
 ·rw[if_pos he];refine(q95z (n:Int) hc (by simp;omega)).mono fun e w' ⟨h1,h2⟩=>⟨h1,h2▸⟨i,hi,hc,hr⟩,h2▸World.grownBy.refl _ _⟩
theorem q8yf(n:Nat)(hn8:n<=8)(hm:s.size<=9223372036854775807)(h:CsAt w cb s x) :
 Calls prog 41 #[.pointer (some ⟨cb,0,none⟩),.int .i64 n] w fun e w'=>e=.returned (.int .u64 ((x.num n).1:Nat))/\CsAt w' cb s (x.num n).2/\w.grownBy w' (some cb):=by
 obtain⟨i,hi,hc,hr⟩:=h;have hl:x.r.length=s.size-i:=by rw[<-hr,List.length_drop,<-q4ad]
 unfold Cs.num Cs.take;by_cases he:x.e=0
 ·rw[if_neg (by simpa using he)];rw[he] at hc;by_cases hn:x.r.length<n
  ·rw[if_pos hn];refine(q6bm (n:Int) hc hi hm (by omega)).mono fun e w' ⟨h1,h2,h3⟩=>⟨h1,⟨i,hi,h2,hr⟩,h3⟩
  ·rw[if_neg hn];refine(qvi6 n hc (by omega) hm).mono fun e w' ⟨h1,h2,h3⟩=>⟨?_,⟨i+n,by omega,h2,?_⟩,h3⟩
   ·rw[h1,qelx s i n (by omega) hn8,hr]
   ·rw[<-hr,List.drop_drop]
 ·rw[if_pos he];refine(qgl9 (n:Int) hc (by simp;omega)).mono fun e w' ⟨h1,h2⟩=>⟨h1,h2▸⟨i,hi,hc,hr⟩,h2▸World.grownBy.refl _ _⟩
theorem qrso{w w'':World}{a:Nat}(h:∃j,w''=(w.drewN a).drewN j):∃n,w''=w.drewN n:=by obtain⟨j,rfl⟩:=h;exact⟨a+j,by simp⟩
theorem qjtm(hm:s.size<=9223372036854775807)(h:CsAt w cb s x) :
 Calls prog 84 #[.pointer (some ⟨cb,0,none⟩)] w fun e w'=>e=.returned (.int .i64 (x.r.length:Nat))/\∃n,w'=w.drewN n:=by
 obtain⟨i,hi,hc,hr⟩:=h;have hl:x.r.length=s.size-i:=by rw[<-hr,List.length_drop,<-q4ad]
 rw[hl];exact qog8 hc hi hm
theorem qzrp(hm:s.size<=9223372036854775807)(h:CsAt w cb s x) :
 Calls prog 45 #[.pointer (some ⟨cb,0,none⟩)] w fun e w'=>e=.returned (.string (bs x.r))/\∃n,w'=w.drewN n:=by
 obtain⟨i,hi,hc,hr⟩:=h;have e:s.extract i s.size=bs x.r:=by have h1:=q31q s i (s.size-i);rw[show i+(s.size-i)=s.size by omega,hr] at h1;rw[h1,List.take_of_length_le];rw[<-hr,List.length_drop,<-q4ad];exact Nat.le_refl _
 rw[<-e];exact qdvc hc hi hm
theorem qazj(f:Nat)(h:CsAt w cb s x) :
 Calls prog 85 #[.pointer (some ⟨cb,0,none⟩),.int .i64 (f:Nat)] w fun e w'=>e=.returned (.tuple #[])/\CsAt w' cb s (x.fail f)/\w.grownBy w' (some cb):=by
 obtain⟨i,hi,hc,hr⟩:=h;unfold Cs.fail;by_cases he:x.e=0
 ·rw[if_neg (by simpa using he)];rw[he] at hc;exact(qxdm (f:Int) hc).mono fun e w' ⟨h1,h2,h3⟩=>⟨h1,⟨i,hi,h2,hr⟩,h3⟩
 ·rw[if_pos he];exact(fail_no (f:Int) hc (by simp;omega)).mono fun e w' ⟨h1,h2⟩=>⟨h1,h2▸⟨i,hi,hc,hr⟩,h2▸World.grownBy.refl _ _⟩
theorem q3gp(h:CsAt w cb s x) :
 Calls prog 42 #[.pointer (some ⟨cb,0,none⟩)] w fun e w'=>e=.returned (.int .i64 (x.e:Nat))/\w=w':=by
 obtain⟨i,hi,hc,hr⟩:=h;exact q29p hc
end
structure CsS(w:World)(cb:Nat)(s:ByteArray)(B:Nat)(y:Cs)(P:Pk)(a:Ad)(W:World):Prop where
 lt:cb<w.heap.size
 g:w.grownBy W (some cb)
 rs:W.heap[w.heap.size]?=some (.cells pkZ 38 (0,0))
 hB:w.heap.size<B
 pk:W.heap[B]?=some (.cells (pkC P a) 38 (0,0))
 cs:CsAt W cb s y
 ps:PL W a.ps P.props
 pc:P.props.length<=a.pc
 pf:∀g i,a.ps=some ⟨g,i,none⟩->B<g
section
variable{w W W':World}{cb:Nat}{s:ByteArray}{x y y':Cs}{B:Nat}{P P':Pk}{a a':Ad}
theorem CsS.ne(h:CsS w cb s B y P a W):B≠cb:=by have:=h.lt;have:=h.hB;omega
theorem CsS.call(h:CsS w cb s B y P a W)(hc:CsAt W' cb s y')(hg:W.grownBy W' (some cb)):CsS w cb s B y' P a W':=
 ⟨h.lt,qo6d h.g hg,(hg.block _ (lt_of_block h.rs) (fun e=>by have:=Option.some.inj e;have:=h.lt;omega)).trans h.rs,h.hB,(hg.block _ (lt_of_block h.pk) (fun e=>h.ne (Option.some.inj e))).trans h.pk,hc,h.ps.grown hg (fun g i e=>by have:=h.pf g i e;have:=h.lt;have:=h.hB;omega),h.pc,h.pf⟩
theorem CsS.below(h:CsS w cb s B y P a W)(hb:Below W.heap.size W W'):CsS w cb s B y P a W':=h.call (h.cs.below hb) (q9cp hb _)
theorem CsS.draws(h:CsS w cb s B y P a W)(n:Nat):CsS w cb s B y P a (W.drewN n):=h.below (qnpu (Below.refl _ _) n)
theorem CsS.cell(h:CsS w cb s B y P a W)(j:Nat):W.cell? ⟨B,j,none⟩=(pkC P a)[j]? := cell_of_row _ _ j _ _ _ h.pk
theorem CsS.fr(h:CsS w cb s B y P a W)(j:Nat):W.frozen? ⟨B,j,none⟩=false:=frozen_of_row _ _ _ _ _ h.pk
theorem CsS.set(h:CsS w cb s B y P a W)(j:Nat)(u:Value)(he:(pkC P a).setIfInBounds j u=pkC P' a')(ps:PL W a'.ps P'.props)(pc:P'.props.length<=a'.pc)(pf:∀g i,a'.ps=some ⟨g,i,none⟩->B<g):CsS w cb s B y P' a' (W.setCell ⟨B,j,none⟩ u):=by have hg:=q99v W B j u;have o:∀k,k≠B->(W.setCell ⟨B,j,none⟩ u).heap[k]?=W.heap[k]? := fun k hk=>heap_setCell_other W ⟨B,j,none⟩ k u hk;have hB:=h.hB;refine⟨h.lt,⟨hg.os.trans h.g.os,hg.tape.trans h.g.tape,hg.output.trans h.g.output,Nat.le_trans h.g.size hg.size,fun k hk hne=>(hg.block k (Nat.lt_of_lt_of_le hk h.g.size) (fun e=>by have:=Option.some.inj e;omega)).trans (h.g.block k hk hne)⟩,(o _ (by omega)).trans h.rs,h.hB,by have:=qlvy h.pk j u;rw[he] at this;exact this,h.cs.of_block (o _ (by have:=h.ne;omega)),ps.kept hg.size (fun g i e _=>o g (by have:=pf g i e;omega)),pc,pf⟩
theorem CsS.laid(lt:cb<w.heap.size)(g:w.grownBy W (some cb))(rs:W.heap[w.heap.size]?=some (.cells pkZ 38 (0,0)))(cs:CsAt W cb s y){D:Array Value}(hD:pkC P adZ=D)(hp:P.props=[]):CsS w cb s W.heap.size y P adZ ((W.alloc (.cells pkZ 38)).setRow W.heap.size D):=by have Z:=lt_of_block rs;have hb:Below W.heap.size W ((W.alloc (.cells pkZ 38)).setRow W.heap.size D):=q8xz (qybm _) (Nat.le_refl _) D;refine⟨lt,qo6d g (q9cp hb _),(hb.block _ Z).trans rs,Z,by rw[hD];exact setRow_heap _ _ _ D _ _ (heap_alloc_new W _),cs.below hb,?_,by rw[hp];exact Nat.zero_le _,fun g i e=>(by cases e)⟩;rw[hp];exact PL.nil
end
def ops2:Option Code->Array Oper
 |some (.seq _ (.seq (.region _ ops _) _))=>ops
 |_=>#[]
def q949(c r:Nat)(cv x3 x4 x5 x6 x7 x8:Value):Act:=⟨#[cv,.pointer (some ⟨c,0,none⟩),.pointer (some ⟨r,0,none⟩),x3,x4,x5,x6,x7,x8,undef,undef,undef,undef,undef],[]⟩
def q0ow:Array Value:=#[.int .i64 0,.int .u32 0,.string ⟨#[]⟩,.string ⟨#[]⟩]
def Zr(W0 W:World)(x:Value)(k:Nat):Prop:=x=.pointer (some ⟨k,0,none⟩)/\W0.heap.size<=k/\k<W.heap.size/\W.heap[k]?=some (.cells q0ow 82 (0,0))
def PaS(W0:World)(cb:Nat)(s:ByteArray)(i:Nat)(e:Int)(b4 b5:Bool)(x3 x4:Value)(W:World):Prop:=
 W0.grownBy W (some cb)/\Cur W cb s i e/\(b4=true->∃k,Zr W0 W x3 k)/\(b5=true->∃k,Zr W0 W x4 k)/\(b4=true->b5=true->x3≠x4)
section
variable{W0 W W':World}{cb i i':Nat}{s:ByteArray}{e e':Int}{b4 b5:Bool}{x3 x4 x:Value}{k:Nat}
theorem Zr.alloc(h:Zr W0 W x k)(o:Obj):Zr W0 (W.alloc o) x k:=⟨h.1,h.2.1,by rw[World.size_alloc];have:=h.2.2.1;omega,(heap_alloc_old _ _ h.2.2.1).trans h.2.2.2⟩
theorem Zr.made(hs:W0.heap.size<=W.heap.size):Zr W0 (W.alloc (.cells q0ow 82 (0,0))) (.pointer (some ⟨W.heap.size,0,none⟩)) W.heap.size:=⟨rfl,hs,by rw[World.size_alloc];omega,heap_alloc_new _ _⟩
theorem Zr.call(hcb:cb<W0.heap.size)(h:Zr W0 W x k)(hg:W.grownBy W' (some cb)):Zr W0 W' x k:=
 ⟨h.1,h.2.1,Nat.lt_of_lt_of_le h.2.2.1 hg.size,(hg.block k h.2.2.1 (fun y=>by have:=Option.some.inj y;have:=h.2.1;omega)).trans h.2.2.2⟩
theorem Zr.ne(h:Zr W0 W x k):x ≠ .pointer (some ⟨W.heap.size,0,none⟩):=fun y=>by
 have h1:=h.1.symm.trans y;injection h1 with h2;injection h2 with h3;injection h3 with h4
 have:=h.2.2.1;omega
theorem PaS.a4(h:PaS W0 cb s i e b4 b5 x3 x4 W):PaS W0 cb s i e true b5 (.pointer (some ⟨W.heap.size,0,none⟩)) x4 (W.alloc (.cells q0ow 82 (0,0))):=by
 obtain⟨h1,h2,_,h4,_⟩:=h;refine⟨qo6d h1 (World.grownBy_alloc _ _ _),h2.of_block (heap_alloc_old _ _ h2.lt),fun _=>⟨_,Zr.made h1.size⟩,fun hb=>?_,fun _ hb=>?_⟩
 ·obtain⟨k,hk⟩:=h4 hb;exact⟨k,hk.alloc _⟩
 ·obtain⟨k,hk⟩:=h4 hb;exact hk.ne.symm
theorem PaS.a5(h:PaS W0 cb s i e b4 b5 x3 x4 W):PaS W0 cb s i e b4 true x3 (.pointer (some ⟨W.heap.size,0,none⟩)) (W.alloc (.cells q0ow 82 (0,0))):=by
 obtain⟨h1,h2,h3,_,_⟩:=h;refine⟨qo6d h1 (World.grownBy_alloc _ _ _),h2.of_block (heap_alloc_old _ _ h2.lt),fun hb=>?_,fun _=>⟨_,Zr.made h1.size⟩,fun hb _=>?_⟩
 ·obtain⟨k,hk⟩:=h3 hb;exact⟨k,hk.alloc _⟩
 ·obtain⟨k,hk⟩:=h3 hb;exact hk.ne
theorem PaS.call(hcb:cb<W0.heap.size)(h:PaS W0 cb s i e b4 b5 x3 x4 W)(hc:Cur W' cb s i' e')(hg:W.grownBy W' (some cb)):PaS W0 cb s i' e' b4 b5 x3 x4 W':=by obtain⟨h1,h2,h3,h4,h5⟩:=h;exact⟨qo6d h1 hg,hc,fun hb=>(h3 hb).imp fun k hk=>hk.call hcb hg,fun hb=>(h4 hb).imp fun k hk=>hk.call hcb hg,h5⟩
end
section
variable{Q:Exit->Act->World->Prop}{K:Act->World->Prop}{W:World}{c r:Nat}{cv x3 x4 x5 x6 x7 x8:Value}{p:String}{af:Array Edge}
theorem qj5t{v:Value}(h:Calls prog 264 #[x5] W fun e w'=>e=.returned v/\K (q949 c r cv x3 x4 x5 v x7 x8) w') :
 Oper.wp prog {dst:=some 6,op := .call {callee := .value (.func 264),args:=#[.tmp 5],argTypes:=#[259]},type:=82,pos:=p,after:=af,guard:=none} (q949 c r cv x3 x4 x5 x6 x7 x8) W K Q:=by
 unfold q949 at *;go_simp;refine h.mono ?_;rintro e w' ⟨rfl,hk⟩;exact hk
theorem qbky{v:Value}(h:Calls prog 264 #[x7] W fun e w'=>e=.returned v/\K (q949 c r cv x3 x4 x5 x6 x7 v) w') :
 Oper.wp prog {dst:=some 8,op := .call {callee := .value (.func 264),args:=#[.tmp 7],argTypes:=#[259]},type:=82,pos:=p,after:=af,guard:=none} (q949 c r cv x3 x4 x5 x6 x7 x8) W K Q:=by
 unfold q949 at *;go_simp;refine h.mono ?_;rintro e w' ⟨rfl,hk⟩;exact hk
theorem qn2w(h:K (q949 c r cv (.pointer (some ⟨W.heap.size,0,none⟩)) x4 x5 x6 x7 x8) (W.alloc (.cells q0ow 82 (0,0)))) :
 Oper.wp prog {dst:=some 3,op := .alloc 82,type:=0,pos:=p,after:=af,guard:=none} (q949 c r cv x3 x4 x5 x6 x7 x8) W K Q:=by
 unfold q949 at *;go_simp;exact h
theorem qh6q(h:K (q949 c r cv x3 (.pointer (some ⟨W.heap.size,0,none⟩)) x5 x6 x7 x8) (W.alloc (.cells q0ow 82 (0,0)))) :
 Oper.wp prog {dst:=some 4,op := .alloc 82,type:=0,pos:=p,after:=af,guard:=none} (q949 c r cv x3 x4 x5 x6 x7 x8) W K Q:=by
 unfold q949 at *;go_simp;exact h
end
section
variable{Q:Exit->Act->World->Prop}{W0 W:World}{cb c r i i1 i2:Nat}{s:ByteArray}{e e1 e2:Int}{px:Value}{t1 t2:ByteArray}
def CvS(c:Nat)(px:Value)(W:World):Prop:=W.cell? ⟨c,0,none⟩=some px
theorem cvS{b4 b5:Bool}{x3 x4:Value}(hc:c≠cb)(hb:W0.heap[c]?=some (.cells #[px] 259 (0,0)))(hl:c<W0.heap.size)(h:PaS W0 cb s i e b4 b5 x3 x4 W):CvS c px W:=
 cell_of_row _ _ _ _ _ _ ((h.1.block c hl (fun y=>hc (Option.some.inj y))).trans hb)
def tx(t:ByteArray):Array Value:=#[.int .i64 0,.int .u32 0,.string t,.string ⟨#[]⟩]
theorem q526(t:ByteArray):(tx t).all (·.oneCell')=true:=by simp[tx,Value.oneCell']
def qybf(W0:World)(cb:Nat)(s:ByteArray)(i:Nat)(e:Int)(t1 t2:ByteArray)(k3 k4:Nat)(W:World):Prop:=
 W0.grownBy W (some cb)/\Cur W cb s i e/\W.heap[k3]?=some (.cells (tx t1) 82 (0,0))/\W.heap[k4]?=some (.cells (tx t2) 82 (0,0))
theorem q8xz6{W0 W:World}{o:Option Nat}(h:W0.grownBy W o){k:Nat}(hk:W0.heap.size<=k)(cs:Array Value):W0.grownBy (W.setRow k cs) o:=
 ⟨h.os,h.tape,h.output,by have:=h.size;simpa [World.setRow] using this,fun j hj hne=>(setRow_other _ _ _ _ (by omega)).trans (h.block j hj hne)⟩
theorem qtjr{d:Option Tmp}{p:String}{af:Array Edge}{x3 x4 x5 x6 x7 x8:Value}{w:World}(hS:CvS c px w) :
 (execOp (q949 c r (.agg #[px]) x3 x4 x5 x6 x7 x8).eval {dst:=d,op := .load 259 (.tmp 1),type:=259,pos:=p,after:=af,guard:=none}).run prog w=.ok (.value (.agg #[px])) w:=by
 unfold CvS at hS;unfold q949;go_simp
theorem q4pc(hq:∀ch a d v w,Q (.panic ch) (Act.put a (some d) v) w->Q (.panic ch) a w)(hcb:cb<W0.heap.size)(hc:c≠cb)(hl:c<W0.heap.size)(hb:W0.heap[c]?=some (.cells #[px] 259 (0,0)))(hcur:Cur W0 cb s i e)
 (T1:∀W,Cur W cb s i e->Calls prog 264 #[.agg #[px]] W fun en w'=>en=.returned (.agg (tx t1))/\Cur w' cb s i1 e1/\W.grownBy w' (some cb))
 (T2:∀W,Cur W cb s i1 e1->Calls prog 264 #[.agg #[px]] W fun en w'=>en=.returned (.agg (tx t2))/\Cur w' cb s i2 e2/\W.grownBy w' (some cb))
 (hf:∀k3 k4 W,qybf W0 cb s i2 e2 t1 t2 k3 k4 W->Q .normal (q949 c r (.agg #[px]) (.pointer (some ⟨k3,0,none⟩)) (.pointer (some ⟨k4,0,none⟩)) (.agg #[px]) (.agg (tx t1)) (.agg #[px]) (.agg (tx t2))) W) :
 (Code.region 1 (ops2 Tryz.f266.body) true).wp prog Q (q949 c r (.agg #[px]) undef undef undef undef undef undef) W0:=by
 have hS:=fun {W:World} {i:Nat} {e:Int} {b4 b5:Bool} {x3 x4:Value} (h:PaS W0 cb s i e b4 b5 x3 x4 W)=>cvS hc hb hl h;have g211:∀x3 x4 W,PaS W0 cb s i2 e2 true true x3 x4 W->wpAnyH prog .any (ops2 Tryz.f266.body) Q (CvS c px) 2 #[true,true,true,true,true,true,false,false] (q949 c r (.agg #[px]) x3 x4 (.agg #[px]) (.agg (tx t1)) (.agg #[px]) (.agg (tx t2))) W:=by
  rintro x3 x4 W ⟨h1,h2,h3,h4,h5⟩;obtain⟨k3,rfl,a1,a2,a3⟩:=h3 rfl;obtain⟨k4,rfl,b1,b2,b3⟩:=h4 rfl;have hne:k3≠k4:=fun y=>h5 rfl rfl (by rw[y]);have q3:c≠k3:=by omega
  have q4:c≠k4:=by omega
  have z1:(W.setRow k3 (tx t1)).heap[k4]?=some (.cells q0ow 82 (0,0)):=(setRow_other _ _ _ _ (Ne.symm hne)).trans b3;have s0:=hS (b4:=false) (b5:=false) (x3:=undef) (x4:=undef) ⟨h1,h2,fun h=>(by cases h),fun h=>(by cases h),fun h=>(by cases h)⟩;have s1:CvS c px (W.setRow k3 (tx t1)):=(cell_setRow_other _ _ _ _ q3).trans s0;have s2:CvS c px ((W.setRow k3 (tx t1)).setRow k4 (tx t2)):=(cell_setRow_other _ _ _ _ q4).trans s1;have hE:qybf W0 cb s i2 e2 t1 t2 k3 k4 ((W.setRow k3 (tx t1)).setRow k4 (tx t2)):=
   ⟨q8xz6 (q8xz6 h1 a1 _) b1 _,h2.of_block ((setRow_other _ _ _ _ (by omega)).trans (setRow_other _ _ _ _ (by omega))),(setRow_other _ _ _ _ hne).trans (setRow_heap _ _ _ _ _ _ a3),setRow_heap _ _ _ _ _ _ z1⟩
  refine wpAnyH_ready (rs:=[6]) (by kernel_rfl) (by simp) ?_;refine AllReadyH.cons rfl (fun K hK=>?_) AllReadyH.nil;rw[if_pos (by rfl)];refine wp_store_row 82 _ _ rfl k3 (tx t1) rfl rfl _ _ a3 (by kernel_rfl) rfl (q526 t1) (hK.out _ _ s1 fun _=>?_);refine wpAnyH_ready (rs:=[7]) (by kernel_rfl) (by simp) ?_;refine AllReadyH.cons rfl (fun K hK=>?_) AllReadyH.nil;rw[if_pos (by rfl)];refine wp_store_row 82 _ _ rfl k4 (tx t2) rfl rfl _ _ z1 (by kernel_rfl) rfl (q526 t2) (hK.out _ _ s2 fun _=>?_);exact wpAnyH_done (by kernel_rfl) (hf k3 k4 _ hE) _
 have g210:∀x3 x4 W,PaS W0 cb s i2 e2 true false x3 x4 W->wpAnyH prog .any (ops2 Tryz.f266.body) Q (CvS c px) 3 #[true,true,true,true,true,false,false,false] (q949 c r (.agg #[px]) x3 x4 (.agg #[px]) (.agg (tx t1)) (.agg #[px]) (.agg (tx t2))) W:=by
  intro x3 x4 W h;refine wpAnyH_ready (rs:=[5]) (by kernel_rfl) (by simp) ?_;refine AllReadyH.cons rfl (fun K hK=>?_) ?_
  ·rw[if_pos (by rfl)];exact qh6q (hK.out _ _ (hS h.a5) fun _=>g211 _ _ _ h.a5)
  exact AllReadyH.nil
 have g201:∀x3 x4 W,PaS W0 cb s i2 e2 false true x3 x4 W->wpAnyH prog .any (ops2 Tryz.f266.body) Q (CvS c px) 3 #[true,true,true,true,false,true,false,false] (q949 c r (.agg #[px]) x3 x4 (.agg #[px]) (.agg (tx t1)) (.agg #[px]) (.agg (tx t2))) W:=by
  intro x3 x4 W h;refine wpAnyH_ready (rs:=[4]) (by kernel_rfl) (by simp) ?_;refine AllReadyH.cons rfl (fun K hK=>?_) ?_
  ·rw[if_pos (by rfl)];exact qn2w (hK.out _ _ (hS h.a4) fun _=>g211 _ _ _ h.a4)
  exact AllReadyH.nil
 have g200:∀x3 x4 W,PaS W0 cb s i2 e2 false false x3 x4 W->wpAnyH prog .any (ops2 Tryz.f266.body) Q (CvS c px) 4 #[true,true,true,true,false,false,false,false] (q949 c r (.agg #[px]) x3 x4 (.agg #[px]) (.agg (tx t1)) (.agg #[px]) (.agg (tx t2))) W:=by
  intro x3 x4 W h;refine wpAnyH_ready (rs:=[4,5]) (by kernel_rfl) (by simp) ?_;refine AllReadyH.cons rfl (fun K hK=>?_) ?_
  ·rw[if_pos (by rfl)];exact qn2w (hK.out _ _ (hS h.a4) fun _=>g210 _ _ _ h.a4)
  refine AllReadyH.cons rfl (fun K hK=>?_) ?_
  ·rw[if_pos (by rfl)];exact qh6q (hK.out _ _ (hS h.a5) fun _=>g201 _ _ _ h.a5)
  exact AllReadyH.nil
 have g111:∀x3 x4 W,PaS W0 cb s i1 e1 true true x3 x4 W->wpAnyH prog .any (ops2 Tryz.f266.body) Q (CvS c px) 3 #[true,true,true,false,true,true,false,false] (q949 c r (.agg #[px]) x3 x4 (.agg #[px]) (.agg (tx t1)) (.agg #[px]) undef) W:=by
  intro x3 x4 W h;refine wpAnyH_ready (rs:=[3]) (by kernel_rfl) (by simp) ?_;refine AllReadyH.cons rfl (fun K hK=>?_) ?_
  ·rw[if_pos (by rfl)];exact qbky ((T2 W h.2.1).mono fun en w' q=>⟨q.1,hK.out _ _ (hS (h.call hcb q.2.1 q.2.2)) fun _=>g211 _ _ _ (h.call hcb q.2.1 q.2.2)⟩)
  exact AllReadyH.nil
 have g110:∀x3 x4 W,PaS W0 cb s i1 e1 true false x3 x4 W->wpAnyH prog .any (ops2 Tryz.f266.body) Q (CvS c px) 4 #[true,true,true,false,true,false,false,false] (q949 c r (.agg #[px]) x3 x4 (.agg #[px]) (.agg (tx t1)) (.agg #[px]) undef) W:=by
  intro x3 x4 W h;refine wpAnyH_ready (rs:=[3,5]) (by kernel_rfl) (by simp) ?_;refine AllReadyH.cons rfl (fun K hK=>?_) ?_
  ·rw[if_pos (by rfl)];exact qbky ((T2 W h.2.1).mono fun en w' q=>⟨q.1,hK.out _ _ (hS (h.call hcb q.2.1 q.2.2)) fun _=>g210 _ _ _ (h.call hcb q.2.1 q.2.2)⟩)
  refine AllReadyH.cons rfl (fun K hK=>?_) ?_
  ·rw[if_pos (by rfl)];exact qh6q (hK.out _ _ (hS h.a5) fun _=>g111 _ _ _ h.a5)
  exact AllReadyH.nil
 have g101:∀x3 x4 W,PaS W0 cb s i1 e1 false true x3 x4 W->wpAnyH prog .any (ops2 Tryz.f266.body) Q (CvS c px) 4 #[true,true,true,false,false,true,false,false] (q949 c r (.agg #[px]) x3 x4 (.agg #[px]) (.agg (tx t1)) (.agg #[px]) undef) W:=by
  intro x3 x4 W h;refine wpAnyH_ready (rs:=[3,4]) (by kernel_rfl) (by simp) ?_;refine AllReadyH.cons rfl (fun K hK=>?_) ?_
  ·rw[if_pos (by rfl)];exact qbky ((T2 W h.2.1).mono fun en w' q=>⟨q.1,hK.out _ _ (hS (h.call hcb q.2.1 q.2.2)) fun _=>g201 _ _ _ (h.call hcb q.2.1 q.2.2)⟩)
  refine AllReadyH.cons rfl (fun K hK=>?_) ?_
  ·rw[if_pos (by rfl)];exact qn2w (hK.out _ _ (hS h.a4) fun _=>g111 _ _ _ h.a4)
  exact AllReadyH.nil
 have g100:∀x3 x4 W,PaS W0 cb s i1 e1 false false x3 x4 W->wpAnyH prog .any (ops2 Tryz.f266.body) Q (CvS c px) 5 #[true,true,true,false,false,false,false,false] (q949 c r (.agg #[px]) x3 x4 (.agg #[px]) (.agg (tx t1)) (.agg #[px]) undef) W:=by
  intro x3 x4 W h;refine wpAnyH_ready (rs:=[3,4,5]) (by kernel_rfl) (by simp) ?_;refine AllReadyH.cons rfl (fun K hK=>?_) ?_
  ·rw[if_pos (by rfl)];exact qbky ((T2 W h.2.1).mono fun en w' q=>⟨q.1,hK.out _ _ (hS (h.call hcb q.2.1 q.2.2)) fun _=>g200 _ _ _ (h.call hcb q.2.1 q.2.2)⟩)
  refine AllReadyH.cons rfl (fun K hK=>?_) ?_
  ·rw[if_pos (by rfl)];exact qn2w (hK.out _ _ (hS h.a4) fun _=>g110 _ _ _ h.a4)
  refine AllReadyH.cons rfl (fun K hK=>?_) ?_
  ·rw[if_pos (by rfl)];exact qh6q (hK.out _ _ (hS h.a5) fun _=>g101 _ _ _ h.a5)
  exact AllReadyH.nil
 have g011:∀x3 x4 W,PaS W0 cb s i e true true x3 x4 W->wpAnyH prog .any (ops2 Tryz.f266.body) Q (CvS c px) 4 #[true,false,true,false,true,true,false,false] (q949 c r (.agg #[px]) x3 x4 (.agg #[px]) undef (.agg #[px]) undef) W:=by
  intro x3 x4 W h;refine wpAnyH_ready (rs:=[1]) (by kernel_rfl) (by simp) ?_;refine AllReadyH.cons rfl (fun K hK=>?_) ?_
  ·rw[if_pos (by rfl)];exact qj5t ((T1 W h.2.1).mono fun en w' q=>⟨q.1,hK.out _ _ (hS (h.call hcb q.2.1 q.2.2)) fun _=>g111 _ _ _ (h.call hcb q.2.1 q.2.2)⟩)
  exact AllReadyH.nil
 have g010:∀x3 x4 W,PaS W0 cb s i e true false x3 x4 W->wpAnyH prog .any (ops2 Tryz.f266.body) Q (CvS c px) 5 #[true,false,true,false,true,false,false,false] (q949 c r (.agg #[px]) x3 x4 (.agg #[px]) undef (.agg #[px]) undef) W:=by
  intro x3 x4 W h;refine wpAnyH_ready (rs:=[1,5]) (by kernel_rfl) (by simp) ?_;refine AllReadyH.cons rfl (fun K hK=>?_) ?_
  ·rw[if_pos (by rfl)];exact qj5t ((T1 W h.2.1).mono fun en w' q=>⟨q.1,hK.out _ _ (hS (h.call hcb q.2.1 q.2.2)) fun _=>g110 _ _ _ (h.call hcb q.2.1 q.2.2)⟩)
  refine AllReadyH.cons rfl (fun K hK=>?_) ?_
  ·rw[if_pos (by rfl)];exact qh6q (hK.out _ _ (hS h.a5) fun _=>g011 _ _ _ h.a5)
  exact AllReadyH.nil
 have g001:∀x3 x4 W,PaS W0 cb s i e false true x3 x4 W->wpAnyH prog .any (ops2 Tryz.f266.body) Q (CvS c px) 5 #[true,false,true,false,false,true,false,false] (q949 c r (.agg #[px]) x3 x4 (.agg #[px]) undef (.agg #[px]) undef) W:=by
  intro x3 x4 W h;refine wpAnyH_ready (rs:=[1,4]) (by kernel_rfl) (by simp) ?_;refine AllReadyH.cons rfl (fun K hK=>?_) ?_
  ·rw[if_pos (by rfl)];exact qj5t ((T1 W h.2.1).mono fun en w' q=>⟨q.1,hK.out _ _ (hS (h.call hcb q.2.1 q.2.2)) fun _=>g101 _ _ _ (h.call hcb q.2.1 q.2.2)⟩)
  refine AllReadyH.cons rfl (fun K hK=>?_) ?_
  ·rw[if_pos (by rfl)];exact qn2w (hK.out _ _ (hS h.a4) fun _=>g011 _ _ _ h.a4)
  exact AllReadyH.nil
 have g000:∀x3 x4 W,PaS W0 cb s i e false false x3 x4 W->wpAnyH prog .any (ops2 Tryz.f266.body) Q (CvS c px) 6 #[true,false,true,false,false,false,false,false] (q949 c r (.agg #[px]) x3 x4 (.agg #[px]) undef (.agg #[px]) undef) W:=by
  intro x3 x4 W h;refine wpAnyH_ready (rs:=[1,4,5]) (by kernel_rfl) (by simp) ?_;refine AllReadyH.cons rfl (fun K hK=>?_) ?_
  ·rw[if_pos (by rfl)];exact qj5t ((T1 W h.2.1).mono fun en w' q=>⟨q.1,hK.out _ _ (hS (h.call hcb q.2.1 q.2.2)) fun _=>g100 _ _ _ (h.call hcb q.2.1 q.2.2)⟩)
  refine AllReadyH.cons rfl (fun K hK=>?_) ?_
  ·rw[if_pos (by rfl)];exact qn2w (hK.out _ _ (hS h.a4) fun _=>g010 _ _ _ h.a4)
  refine AllReadyH.cons rfl (fun K hK=>?_) ?_
  ·rw[if_pos (by rfl)];exact qh6q (hK.out _ _ (hS h.a5) fun _=>g001 _ _ _ h.a5)
  exact AllReadyH.nil
 have P0:PaS W0 cb s i e false false undef undef W0.drew:=⟨⟨rfl,rfl,rfl,Nat.le_refl _,fun _ _ _=>rfl⟩,hcur.draws 1,fun h=>(by cases h),fun h=>(by cases h),fun h=>(by cases h)⟩
 refine wp_region_held_drew (S:=CvS c px) (by kernel_rfl) (hS P0) (fun hHeld=>?_);refine wpAnyH_take (i:=0) (v:=(.agg #[px])) rfl (by kernel_rfl) (by kernel_rfl) (by kernel_rfl) (fun _ _ _ h=>hq _ _ _ _ _ h) (Or.inl ⟨by rfl,?_⟩) hHeld ?_
 ·intro w hSw;exact qtjr hSw
 refine wpAnyH_take (i:=2) (v:=(.agg #[px])) rfl (by kernel_rfl) (by kernel_rfl) (by kernel_rfl) (fun _ _ _ h=>hq _ _ _ _ _ h) (Or.inl ⟨by rfl,?_⟩) hHeld ?_
 ·intro w hSw;exact qtjr hSw
 exact g000 undef undef _ P0
end
theorem qro7{w:World}{cb i i1 i2:Nat}{s:ByteArray}{e e1 e2:Int}(t1 t2:ByteArray)(hc:Cur w cb s i e)
 (T1:∀W,Cur W cb s i e->Calls prog 264 #[curV cb] W fun en w'=>en=.returned (.agg (tx t1))/\Cur w' cb s i1 e1/\W.grownBy w' (some cb))
 (T2:∀W,Cur W cb s i1 e1->Calls prog 264 #[curV cb] W fun en w'=>en=.returned (.agg (tx t2))/\Cur w' cb s i2 e2/\W.grownBy w' (some cb)) :
 Calls prog 266 #[curV cb] w fun en w'=>en=.returned (.agg #[.int .i64 0,.int .u32 0,.string t1,.string t2])/\Cur w' cb s i2 e2/\w.grownBy w' (some cb):=by
 have hcw:=(hc.alloc (.cells #[.pointer (some ⟨cb,0,none⟩)] 259)).alloc (.cells #[.int .i64 0,.int .u32 0,.string ⟨#[]⟩,.string ⟨#[]⟩] 82);have hR:=RdW.made (w:=w) hc.lt;have R0:=hid hR;have HCW:=hid hcw;have HC:=hid hc.lt;have H1:=hid T1;have H2:=hid T2;clear hcw hR hc T1 T2;unfold curV at *;go_in;go_wp2_with fail;refine q4pc (cb:=cb) (c:=w.heap.size) (r:=w.heap.size+1) (px := .pointer (some ⟨cb,0,none⟩)) (t1:=t1) (t2:=t2) (fun _ _ _ _ _ h=>h) (by simp only[World.size_alloc];have:=HC.out;omega) (fun y=>by have:=HC.out;omega) (by simp only[World.size_alloc];omega) R0.out.2.1 HCW.out H1.out H2.out ?_;intro k3 k4 W hE;obtain⟨hg,hc',a3,a4⟩:=hE;have R1:=hid (R0.out.step hg);have C1:=hid hc';have f0:=R1.out.fr 0;have f1:=R1.out.fr 1;have f2:=R1.out.fr 2;have f3:=R1.out.fr 3;have r0:=R1.out.r 0;have r1:=R1.out.r 1;have r2:=R1.out.r 2;have r3:=R1.out.r 3;have u3:W.cell? ⟨k3,2,none⟩=some (.string t1):=cell_of_row _ _ _ _ _ _ a3;have u4:W.cell? ⟨k4,2,none⟩=some (.string t2):=cell_of_row _ _ _ _ _ _ a4;clear hg hc' a3 a4 R0 HCW HC H1 H2;unfold q949;go_wp2_with fail;obtain⟨z1,z2,z3⟩:=R1.out.fin C1.out (.int .i64 0) (.int .u32 0) (.string t1) (.string t2);exact qlwy rfl rfl rfl rfl z1 ⟨rfl,z2,z3⟩
theorem qzpi{α:Type}(p k:Nat)(x y:α):(if p≠0 then(x,0,p) else(y,k,0)).2.2=p:=by
 by_cases h:p=0
 ·rw[if_neg (by simp[h]),h]
 ·rw[if_pos h]
theorem q42r(l:List UInt8):q91e false l=((rdT l).1,(rdT l).2.1,if (rdT l).2.2=3 then 5 else(rdT l).2.2):=by
 unfold q91e;rcases q0f1 l with ⟨h0,h1,h2,h3⟩|⟨h0,h1,h2⟩|⟨h0,h1,h2,h3⟩
 ·rw[if_neg (by simp[h3]),if_pos (by simp[h2]),h1,h3];rfl
 ·rw[if_pos h2,h1];rfl
 ·rw[if_neg (by simp[h2]),if_neg (by simp[h3]),h1];rfl
theorem q52a(l:List UInt8):q91e true l=((rdB l).1,(rdB l).2.1,if (rdB l).2.2=3 then 5 else(rdB l).2.2):=by
 unfold q91e;rcases qsrz l with ⟨h0,h⟩|h
 ·rw[if_neg (by simp[h0]),if_pos (by simp),h0];rfl
 ·rw[h];rfl
theorem q7cf{w W:World}{cb i n i' e' c:Nat}{s:ByteArray}{id:Int}(hi:i<=s.size)(h:(s.size-i<c/\n=0/\i'=i/\e'=3)\/(i+c<=s.size/\n=num ((s.data.toList.drop i).take c)/\i'=i+c/\e'=0))(h4:c<=4)
 (hn:qij7 id (s.data.toList.drop i)=numP id c (s.data.toList.drop i)) (hc:Cur W cb s i' (e':Nat)) (hg:w.grownBy W (some cb)):RdS cb s i id w (.returned (qbhk ⟨0,n,[],[]⟩)) W:=by
 have hl:(s.data.toList.drop i).length=s.size-i:=by rw[List.length_drop,<-q4ad]
 refine⟨⟨0,n,[],[]⟩,i',e',rfl,hc,hg,?_,?_,?_⟩
 ·rcases h with ⟨_,_,h,_⟩|⟨h,_,h',_⟩<;>omega
 ·rw[hn];unfold numP;rcases h with ⟨h1,_,_,h2⟩|⟨h1,_,_,h2⟩
  ·rw[if_pos (by omega),h2];rfl
  ·rw[if_neg (by omega),h2];rfl
 ·intro he;rcases h with ⟨h1,_,_,h2⟩|⟨h1,h2,h3,_⟩
  ·omega
  ·have hlt:num ((s.data.toList.drop i).take c)<4294967296:=by
    have h1:=qn9h ((s.data.toList.drop i).take c);have h2:256^((s.data.toList.drop i).take c).length<=256^4:=Nat.pow_le_pow_right (by decide) (by rw[List.length_take];omega);have h3:256^4=4294967296:=by decide
    omega
   rw[hn];unfold numP;rw[if_neg (by omega)];subst h2 h3;exact⟨rfl,by simp,hlt,by simp,by simp⟩
section
variable{w:World}{cb i:Nat}{s:ByteArray}
theorem ql5c(hc:Cur w cb s i 0)(hi:i<=s.size)(hm:s.size<=9223372036854775807)(id:Int)(hs:qwgc id=1) :
 Calls prog 260 #[curV cb] w (RdS cb s i id w):=by
 have hcw:=(hc.alloc (.cells #[.pointer (some ⟨cb,0,none⟩)] 259)).alloc (.cells #[.int .i64 0,.int .u32 0,.string ⟨#[]⟩,.string ⟨#[]⟩] 82);have R0:=hid (RdW.made (w:=w) hc.lt);have H:=hid (qak3 1 hcw hi hm (by decide) (by decide));have HI:=hid hi;have HS:=hid hs;clear hcw hc hi hm hs;unfold curV at *;go_in;go_wp2_with fail;refine(H.out).mono ?_;rintro e w2 ⟨n,i',e',rfl,hc2,hg2,hcase⟩;have R1:=hid (R0.out.step hg2);have C1:=hid hc2;have HC:=hid hcase;have f0:=R1.out.fr 0;have f1:=R1.out.fr 1;have f2:=R1.out.fr 2;have f3:=R1.out.fr 3;have r0:=R1.out.r 0;have r1:=R1.out.r 1;have r2:=R1.out.r 2;have r3:=R1.out.r 3;clear hc2 hg2 hcase R0 H;unfold qbhk;go_wp2_with fail;obtain⟨z1,z2,z3⟩:=R1.out.fin C1.out (.int .i64 0) (.int .u32 n) (.string (bs [])) (.string (bs []));exact qlwy rfl rfl rfl rfl z1 (q7cf HI.out HC.out (by decide) (by unfold qij7;rw[HS.out];rfl) z2 z3)
theorem q2t7(hc:Cur w cb s i 0)(hi:i<=s.size)(hm:s.size<=9223372036854775807)(id:Int)(hs:qwgc id=2) :
 Calls prog 261 #[curV cb] w (RdS cb s i id w):=by
 have hcw:=(hc.alloc (.cells #[.pointer (some ⟨cb,0,none⟩)] 259)).alloc (.cells #[.int .i64 0,.int .u32 0,.string ⟨#[]⟩,.string ⟨#[]⟩] 82);have R0:=hid (RdW.made (w:=w) hc.lt);have H:=hid (qak3 2 hcw hi hm (by decide) (by decide));have HI:=hid hi;have HS:=hid hs;clear hcw hc hi hm hs;unfold curV at *;go_in;go_wp2_with fail;refine(H.out).mono ?_;rintro e w2 ⟨n,i',e',rfl,hc2,hg2,hcase⟩;have R1:=hid (R0.out.step hg2);have C1:=hid hc2;have HC:=hid hcase;have f0:=R1.out.fr 0;have f1:=R1.out.fr 1;have f2:=R1.out.fr 2;have f3:=R1.out.fr 3;have r0:=R1.out.r 0;have r1:=R1.out.r 1;have r2:=R1.out.r 2;have r3:=R1.out.r 3;clear hc2 hg2 hcase R0 H;unfold qbhk;go_wp2_with fail;obtain⟨z1,z2,z3⟩:=R1.out.fin C1.out (.int .i64 0) (.int .u32 n) (.string (bs [])) (.string (bs []));exact qlwy rfl rfl rfl rfl z1 (q7cf HI.out HC.out (by decide) (by unfold qij7;rw[HS.out];rfl) z2 z3)
theorem quok(hc:Cur w cb s i 0)(hi:i<=s.size)(hm:s.size<=9223372036854775807)(id:Int)(hs:qwgc id=3) :
 Calls prog 262 #[curV cb] w (RdS cb s i id w):=by
 have hcw:=(hc.alloc (.cells #[.pointer (some ⟨cb,0,none⟩)] 259)).alloc (.cells #[.int .i64 0,.int .u32 0,.string ⟨#[]⟩,.string ⟨#[]⟩] 82);have R0:=hid (RdW.made (w:=w) hc.lt);have H:=hid (qak3 4 hcw hi hm (by decide) (by decide));have HI:=hid hi;have HS:=hid hs;clear hcw hc hi hm hs;unfold curV at *;go_in;go_wp2_with fail;refine(H.out).mono ?_;rintro e w2 ⟨n,i',e',rfl,hc2,hg2,hcase⟩;have R1:=hid (R0.out.step hg2);have C1:=hid hc2;have HC:=hid hcase;have f0:=R1.out.fr 0;have f1:=R1.out.fr 1;have f2:=R1.out.fr 2;have f3:=R1.out.fr 3;have r0:=R1.out.r 0;have r1:=R1.out.r 1;have r2:=R1.out.r 2;have r3:=R1.out.r 3;clear hc2 hg2 hcase R0 H;unfold qbhk;go_wp2_with fail;obtain⟨z1,z2,z3⟩:=R1.out.fin C1.out (.int .i64 0) (.int .u32 n) (.string (bs [])) (.string (bs []));exact qlwy rfl rfl rfl rfl z1 (q7cf HI.out HC.out (by decide) (by unfold qij7;rw[HS.out];rfl) z2 z3)
theorem qf9b(hc:Cur w cb s i 0)(hi:i<=s.size)(hm:s.size<=9223372036854775807)(id:Int)(hs:qwgc id=4) :
 Calls prog 263 #[curV cb] w (RdS cb s i id w):=by
 have hl:(s.data.toList.drop i).length=s.size-i:=by rw[List.length_drop,<-q4ad]
 have hn:qij7 id (s.data.toList.drop i)=if rdE (s.data.toList.drop i)≠0 then(⟨id,0,[],[]⟩,0,5) else(⟨id,rdV (s.data.toList.drop i),[],[]⟩,rdN (s.data.toList.drop i),0):=by unfold qij7;rw[hs];rfl
 obtain⟨q1,q2,q3⟩:=qips (s.data.toList.drop i);refine(qdow hc hi hm).mono fun e W ⟨h1,h2,h3⟩=>⟨_,_,_,h1,h2,h3,by omega,?_,fun he=>?_⟩
 ·rw[hn];rcases q3 with h|⟨_,_,h|h⟩<;>rw[h]<;>rfl
 ·rw[hn,he];refine⟨rfl,?_,by show rdV _<_;omega,by simp,by simp⟩;rw[if_neg (by simp),Nat.add_sub_cancel_left]
theorem qd43(hc:Cur w cb s i 0)(hi:i<=s.size)(hm:s.size<=9223372036854775807)(id:Int)(hs:qwgc id=5) :
 Calls prog 264 #[curV cb] w (RdS cb s i id w):=by
 have hl:(s.data.toList.drop i).length=s.size-i:=by rw[List.length_drop,<-q4ad]
 have hn:qij7 id (s.data.toList.drop i)=if (q91e false (s.data.toList.drop i)).2.2≠0 then(⟨id,0,[],[]⟩,0,(q91e false (s.data.toList.drop i)).2.2) else(⟨id,0,(q91e false (s.data.toList.drop i)).1,[]⟩,(q91e false (s.data.toList.drop i)).2.1,0):=by unfold qij7;rw[hs];rfl
 rw[q42r] at hn;obtain⟨q1,q2⟩:=qslt (s.data.toList.drop i);refine(qi04 hc hi hm).mono fun e W ⟨h1,h2,h3⟩=>⟨_,_,_,h1,h2,h3,by omega,?_,fun he=>?_⟩
 ·rw[hn];exact qzpi _ _ _ _
 ·rw[hn,he];refine⟨rfl,?_,by simp,by simpa using q2,by simp⟩;rw[if_neg (by simp),Nat.add_sub_cancel_left]
theorem qvq0(hc:Cur w cb s i 0)(hi:i<=s.size)(hm:s.size<=9223372036854775807)(id:Int)(hs:qwgc id=6) :
 Calls prog 265 #[curV cb] w (RdS cb s i id w):=by
 have hl:(s.data.toList.drop i).length=s.size-i:=by rw[List.length_drop,<-q4ad]
 have hn:qij7 id (s.data.toList.drop i)=if (q91e true (s.data.toList.drop i)).2.2≠0 then(⟨id,0,[],[]⟩,0,(q91e true (s.data.toList.drop i)).2.2) else(⟨id,0,(q91e true (s.data.toList.drop i)).1,[]⟩,(q91e true (s.data.toList.drop i)).2.1,0):=by unfold qij7;rw[hs];rfl
 rw[q52a] at hn;obtain⟨q1,q2⟩:=q3gm (s.data.toList.drop i);refine(q6x7 hc hi hm).mono fun e W ⟨h1,h2,h3⟩=>⟨_,_,_,h1,h2,h3,by omega,?_,fun he=>?_⟩
 ·rw[hn];exact qzpi _ _ _ _
 ·rw[hn,he];refine⟨rfl,?_,by simp,by simpa using q2,by simp⟩;rw[if_neg (by simp),Nat.add_sub_cancel_left]
theorem qeri(hc:Cur w cb s i 0)(hi:i<=s.size)(hm:s.size<=9223372036854775807)(id:Int)(hs:qwgc id=7) :
 Calls prog 266 #[curV cb] w (RdS cb s i id w):=by
 have hl:(s.data.toList.drop i).length=s.size-i:=by rw[List.length_drop,<-q4ad]
 have hn:qij7 id (s.data.toList.drop i)=(if (q91e false (s.data.toList.drop i)).2.2≠0 then(⟨id,0,[],[]⟩,0,(q91e false (s.data.toList.drop i)).2.2)
  else if (q91e false ((s.data.toList.drop i).drop (q91e false (s.data.toList.drop i)).2.1)).2.2≠0 then(⟨id,0,[],[]⟩,0,(q91e false ((s.data.toList.drop i).drop (q91e false (s.data.toList.drop i)).2.1)).2.2)
  else(⟨id,0,(q91e false (s.data.toList.drop i)).1,(q91e false ((s.data.toList.drop i).drop (q91e false (s.data.toList.drop i)).2.1)).1⟩,(q91e false (s.data.toList.drop i)).2.1+(q91e false ((s.data.toList.drop i).drop (q91e false (s.data.toList.drop i)).2.1)).2.1,0)):=by unfold qij7;rw[hs];rfl
 rw[q42r,q42r] at hn;obtain⟨q1,q2⟩:=qslt (s.data.toList.drop i);have hk:i+(rdT (s.data.toList.drop i)).2.1<=s.size:=by omega
 have T1:∀W,Cur W cb s i 0->_:=fun W h=>qi04 (w:=W) h hi hm;by_cases hz:(rdT (s.data.toList.drop i)).2.2=0
 ·rw[hz] at T1;have T2:∀W,Cur W cb s (i+(rdT (s.data.toList.drop i)).2.1) 0->_:=fun W h=>qi04 (w:=W) h hk hm;obtain⟨u1,u2⟩:=qslt (s.data.toList.drop (i+(rdT (s.data.toList.drop i)).2.1));have hl2:(s.data.toList.drop (i+(rdT (s.data.toList.drop i)).2.1)).length=s.size-(i+(rdT (s.data.toList.drop i)).2.1):=by rw[List.length_drop,<-q4ad]
  simp only[hz,List.drop_drop] at hn;refine(qro7 (bs (rdT (s.data.toList.drop i)).1) (bs (rdT (s.data.toList.drop (i+(rdT (s.data.toList.drop i)).2.1))).1) hc T1 T2).mono fun e W ⟨h1,h2,h3⟩=>⟨⟨0,0,_,_⟩,_,_,h1,h2,h3,by omega,?_,fun he=>?_⟩
  ·rw[hn];rw[if_neg (by simp)];exact qzpi _ _ _ _
  ·rw[hn,he];rw[if_neg (by simp),if_neg (by simp)];exact⟨Nat.add_assoc _ _ _,by rw[show i+(rdT (s.data.toList.drop i)).2.1+(rdT (s.data.toList.drop (i+(rdT (s.data.toList.drop i)).2.1))).2.1-i=(rdT (s.data.toList.drop i)).2.1+(rdT (s.data.toList.drop (i+(rdT (s.data.toList.drop i)).2.1))).2.1 by omega],by simp,by simpa using q2,by simpa using u2⟩
 ·have T2:∀W,Cur W cb s (i+(rdT (s.data.toList.drop i)).2.1) ((rdT (s.data.toList.drop i)).2.2:Nat)->_:=fun W h=>q5dm (w:=W) h (by simp;exact hz) hk hm;refine(qro7 (bs (rdT (s.data.toList.drop i)).1) (bs (rdT (s.data.toList.drop (i+(rdT (s.data.toList.drop i)).2.1))).1) hc T1 T2).mono fun e W ⟨h1,h2,h3⟩=>⟨⟨0,0,_,_⟩,_,_,h1,h2,h3,by omega,?_,fun he=>absurd he hz⟩
  rw[hn];rw[if_pos (by
   simp only[ne_eq];split
   ·decide
   ·exact hz)]
end
end Go.Proofs.YtefmhbioggcfaaaGreatDoor
