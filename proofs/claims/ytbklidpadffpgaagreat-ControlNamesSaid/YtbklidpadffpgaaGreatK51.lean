/- The contract of prop.Read, as a law's walk wants it. Condition: the bytes are no more than an int says. -/
import Derived.Deep.DeepCutAuto
import Derived.Great.BuildSlice
import Derived.Test.YtbklidpadffpgaaGreatK50
import Derived.Test.YtbklidpadffpgaaGreatK13
import Derived.Test.YtbklidpadffpgaaGreatK05
import Derived.Test.YtbklidpadffpgaaGreatK15
import Derived.Test.YtbklidpadffpgaaGreatK44
import Derived.Test.YtbklidpadffpgaaGreatK27
import Derived.Test.YtbklidpadffpgaaGreatK48
import Derived.Test.YtbklidpadffpgaaGreatK17
set_option maxRecDepth 100000
set_option maxHeartbeats 4000000
namespace Go.Proofs.YtbklidpadffpgaaGreat
open Go.RowKit
theorem q188(kind:Int)(s:ByteArray)(L:List Pr)(k F:Nat)(hk0:-9223372036854775808≤kind)(hk1:kind≤9223372036854775807)(hm:s.size≤9223372036854775807)(hq:qflw kind s.data.toList=(L,k,F))(W:World) :
 Calls Tryz.prog 47 #[.int .i64 kind,.string s] W fun e W'=>Below W.heap.size W W'∧∃A c,e = .returned (.tuple #[.slice A L.length c,.int .i64 (k:Nat),.int .i64 (F:Nat)])∧L.length≤c∧PL W' A L∧(∀p∈L,PrOk p)∧L.length≤1000∧∀g i,A=some ⟨g,i,none⟩→W.heap.size≤g:=by
 have:=q3kx kind s W hk0 hk1 hm
 rw[hq] at this
 refine this.mono fun e W' ⟨hb,ok,hl,v,he,ho⟩=>⟨hb,?_⟩
 obtain⟨A,c,rfl,hc,hP,hg⟩:=PL.owned ho rfl
 exact⟨A,c,he,hc,hP,ok,hl,hg⟩
end Go.Proofs.YtbklidpadffpgaaGreat
namespace Go.Proofs.YtbklidpadffpgaaGreat
theorem qoa7{kind:Int}{p:Pr}(h:qr4y kind p=0):PrOk p∧p.text.length≤65535∧p.value.length≤65535:=by
 obtain⟨hm,h4,h5⟩:=qo1o h
 obtain⟨_,h1,h2,_⟩:=qttn h
 obtain⟨r1,r2⟩:=qilb hm
 obtain⟨f0,f7,f1,f2,f3,f4,_⟩:=qznl hm
 have hn:p.n < 4294967296:=by
  by_cases hs:qwgc p.id≤4
  ·have h6:=(h4 hs).2.2.2
   have hs4:qwgc p.id=1∨qwgc p.id=2∨qwgc p.id=3∨qwgc p.id=4:=by omega
   rcases hs4 with e | e | e | e
   ·have:=f1 e;omega
   ·have:=f2 e;omega
   ·have:=f3 e;omega
   ·have:=f4 e;omega
  ·have:=(h5 (by omega)).1;omega
 exact⟨⟨by omega,by omega,hn,by omega,by omega⟩,h1,h2⟩
theorem qdz1(kind:Int)(s:List UInt8):(∀p∈(qflw kind s).1,PrOk p∧p.text.length≤65535∧p.value.length≤65535)∧(qflw kind s).1.length≤1000:=by
 by_cases h:(qflw kind s).2.2=0
 ·have hv:=(qugf (show qflw kind s=((qflw kind s).1,(qflw kind s).2.1,0) by rw[←h])).1
  obtain⟨h1,h2,_⟩:=(qgl5 _ _).1 hv
  exact⟨fun p hp=>qoa7 (h2.1 p hp),h1⟩
 ·rw[qjfk h]
  exact⟨fun p hp=>(nomatch hp),Nat.zero_le _⟩
end Go.Proofs.YtbklidpadffpgaaGreat
namespace Go.Proofs.YtbklidpadffpgaaGreat
open Go.RowKit
def q300(l:List UInt8):Nat:=match l with | []=>0 | b::_=>b.toNat
def qs8t(kind:Int)(l:List UInt8):List Pr×Nat:=if l.tail=[] then([],0) else((qflw kind l.tail).1,(qflw kind l.tail).2.2)
theorem qiic(kind:Int)(l:List UInt8):q6u6 kind l=((q300 l,(qs8t kind l).1),(qs8t kind l).2):=by
 unfold q6u6 qs8t q300
 cases l with
 | nil=>rfl
 | cons b t=>
  by_cases ht:t=[]<;>simp[ht]
theorem q69d(l:List UInt8):q300 l < 256:=by
 unfold q300
 cases l with
 | nil=>decide
 | cons b t=>exact b.toNat_lt
theorem qzp7(kind:Int)(l:List UInt8):endK kind l=((if (decide ((q4py (q300 l) (qs8t kind l).1 kind).length < l.length)) then((Cs.mk l.tail 0).fail (qs8t kind l).2).fail 5 else(Cs.mk l.tail 0).fail (qs8t kind l).2)).e:=by
 unfold endK
 rw[qiic]
 simp only
 generalize (qs8t kind l).2=f
 by_cases h:(q4py (q300 l) (qs8t kind l).1 kind).length < l.length
 ·by_cases hf:f=0
  ·simp[Cs.fail,hf,h]
  ·simp[Cs.fail,hf,h]
 ·by_cases hf:f=0
  ·simp[Cs.fail,hf,h]
  ·simp[Cs.fail,hf,h]
def qv7v(w:World)(R:Pk×Nat)(e:Ending)(W:World):Prop:=
 ∃a:Ad,e = .returned (.tuple #[.agg (pkC R.1 a),.int .i64 (R.2:Nat)])∧PL W a.ps R.1.props∧R.1.props.length≤a.pc∧(∀g i,a.ps=some ⟨g,i,none⟩→w.heap.size≤g)∧Below w.heap.size w W
theorem qtnz(kind:Int)(s:ByteArray)(w:World)(hk0:-9223372036854775808≤kind)(hk1:kind≤9223372036854775807)(hm:s.size≤140737488351232) :
 Calls Tryz.prog 21 #[.int .i64 kind,.string s] w (qv7v w (pkT kind (q6u6 kind s.data.toList).1.1 (q6u6 kind s.data.toList).1.2,endK kind s.data.toList)):=by
 rw[qzp7,qiic]
 simp only
 have hm9:s.size≤9223372036854775807:=by omega
 have hsz:s.size=s.data.toList.length:=q4ad s
 obtain⟨L,hL⟩:∃L,s.data.toList=L:=⟨_,rfl⟩
 rw[hL] at hsz ⊢
 have hz:=q69d L
 obtain⟨c,hc⟩:∃c,q300 L=c:=⟨_,rfl⟩
 rw[hc] at hz ⊢
 obtain⟨⟨l,f⟩,hlf⟩:∃q,qs8t kind L=q:=⟨_,rfl⟩
 rw[hlf]
 simp only
 obtain⟨dd,hdd⟩:∃d,decide ((q4py c l kind).length < L.length)=d:=⟨_,rfl⟩
 rw[hdd]
 obtain⟨Y2,hY2⟩:∃Y,(Cs.mk L.tail 0).fail f=Y:=⟨_,rfl⟩
 rw[hY2]
 obtain⟨Y,hY⟩:∃Y,(if dd=true then Y2.fail 5 else Y2)=Y:=⟨_,rfl⟩
 rw[hY]
 have HDD:=Lib.hid hdd
 have HY2:=Lib.hid hY2
 have HY:=Lib.hid hY
 clear hdd hY2 hY
 have LF:=Lib.hid (fun(cb:Nat) (z:Cs) W (h:CsAt W cb s z)=>qjtm hm9 h)
 have NM:=Lib.hid (fun(cb:Nat) (z:Cs) W (h:CsAt W cb s z)=>q8yf 1 (by decide) hm9 h)
 have RS:=Lib.hid (fun(cb:Nat) (z:Cs) W (h:CsAt W cb s z)=>qzrp hm9 h)
 have FL:=Lib.hid (fun(cb:Nat) (x:Cs) (g:Nat) W (h:CsAt W cb s x)=>qazj g h)
 have ER:=Lib.hid (fun(cb:Nat) (x:Cs) W (h:CsAt W cb s x)=>q3gp h)
 have NW:=Lib.hid (fun W=>q2gu s W)
 have hprs:∀p∈l,PrOk p:=by
  unfold qs8t at hlf
  split at hlf
  ·cases hlf;exact fun p hp=>(nomatch hp)
  ·cases hlf;exact fun p hp=>((qdz1 _ _).1 p hp).1
 have TL:=Lib.hid (fun(A:Option Addr) (n cc:Nat) W (hl:PL W A l) (hn:l.length=n) (hc:n≤cc)=>qvrf c kind A n cc l W hk0 hk1 hl hn hc hprs)
 obtain⟨D,hD⟩:∃D,pkC (pkT kind 0 []) adZ=D:=⟨_,rfl⟩
 have HD1:=Lib.hid (by rw[←hD];exact qwmp _ _:D.size=25)
 have HD2:=Lib.hid (by rw[←hD];exact qmz0 _ _:D.all (·.oneCell')=true)
 have HD:=Lib.hid hD
 have HZ:=Lib.hid qbwp
 have hzv:=qrai
 have hne:¬pkZ=#[]:=by intro h;have:=qbwp;rw[h] at this;cases this
 have RS0:=Lib.hid (heap_alloc_new w (.cells pkZ 35))
 have ZW:=Lib.hid (show(w.alloc (.cells pkZ 35)).heap.size=w.heap.size+1 by simp)
 have L0:=Lib.hid (qybm (w:=w) (.cells pkZ 35))
 have HL:=Lib.hid hL
 have HC:=Lib.hid hc
 have HLF:=Lib.hid hlf
 have HS:=Lib.hid hsz
 have HM:=Lib.hid hm
 have HK:=Lib.hid (And.intro hk0 hk1)
 have HX:=Lib.hid hz
 clear hD hL hc hlf hsz hm hm9 hk0 hk1 hz hprs
 go_enter Tryz.func21,Tryz.ntmps21
 go_wp2_with fail
 generalize w.alloc (.cells pkZ 35)=W0 at *
 refine(NW.out _).mono ?_
 rintro e W1 ⟨rfl,hcur,hb1,hz1⟩
 have C1:=(show CsAt W1 W0.heap.size s ⟨L,0⟩ from⟨0,Nat.zero_le _,hcur,by simpa using HL.out⟩)
 replace C1:=Lib.hid C1
 have L1:=Lib.hid (qxh2 L0.out hb1)
 have R1:=Lib.hid ((hb1.block _ (lt_of_block RS0.out)).trans RS0.out)
 have S1:=Lib.hid (KcS.laid L1.out R1.out (by rw[ZW.out];omega) C1.out HD.out rfl)
 clear hcur hb1 hz1 C1 L1 R1 RS0 L0 NW
 generalize W0.heap.size=cb at *
 go_upto_region 3 with (first
  | (refine wpList_buildTo rfl 35 _ rfl (some _) rfl D (by rw[←HD.out];kernel_rfl) ?_)
  | (refine wpList_store_row rfl _ _ _ rfl W1.heap.size D rfl rfl 35 _ (heap_alloc_new W1 _) (by rw[HD1.out];exact q5nr) (by rw[HZ.out,HD1.out]) HD2.out ?_))
 generalize W1.heap.size=B at *
 generalize (W1.alloc (.cells pkZ 35)).setRow _ D=W2 at *
 clear hzv hne
 dsimp only[Act.put]
 obtain⟨g,hg⟩:∃g,decide ((0:Int) < ((L.length:Nat):Int))=g:=⟨_,rfl⟩
 have LF1:Calls Tryz.prog 45 #[.pointer (some ⟨cb,0,none⟩)] W2 fun e w'=>e = .returned (.int .i64 ((L.length:Nat):Int))∧KcS w cb s B ⟨L,0⟩ (pkT kind 0 []) adZ w':=
  (LF.out cb ⟨L,0⟩ W2 S1.out.cs).mono fun e w' ⟨he,n,hn⟩=>⟨he,hn▸S1.out.draws n⟩
 have HG:=Lib.hid hg
 obtain⟨m,hmm⟩:∃m:Int,((L.length:Nat):Int)=m:=⟨_,rfl⟩
 rw[hmm] at LF1 hg
 replace LF1:=Lib.hid LF1
 clear hmm S1
 go_wp2_with fail
 refine(LF1.out).mono ?_
 rintro e W3 ⟨rfl,hS⟩
 have S2:=Lib.hid hS
 clear hS LF1
 go_upto_if 17 with fail
 clear hg
 go_cut [] (fun wx=>KcS w cb s B ⟨L.tail,0⟩ (pkT kind c []) adZ wx)
 case first=>
  have h1:=HG.out
  have h2:=HC.out
  cases L with
  | nil=>
   have h1:false=g:=by rw[←h1];rfl
   subst h1
   have h2:0=c:=h2
   subst h2
   go_wp2_with fail
   go_meet
   exact S2.out
  | cons b t=>
   have h1:true=g:=by
    rw[←h1]
    exact(decide_eq_true (by simp only[List.length_cons];omega)).symm
   subst h1
   have h2:b.toNat=c:=h2
   have N1:=NM.out cb ⟨b::t,0⟩
   rw[Cs.num_one,h2] at N1
   replace N1:=Lib.hid N1
   have hc2:(c:Int) < 65536:=by have:=HX.out;omega
   have hw:IntKind.i64.wrap (c:Int)=(c:Int):=by rw[IntKind.wrap_i64];omega
   clear h2
   go_wp2_with fail
   refine(N1.out _ S2.out.cs).mono ?_
   rintro e W4 ⟨rfl,hcs,hgr⟩
   have S3:=Lib.hid (S2.out.call hcs hgr)
   have n21:W4.cell? ⟨B,21,none⟩=some (.int .i64 0):=S3.out.cell 21
   have f21:=S3.out.fr 21
   have S4:=Lib.hid (S3.out.set 21 (.int .i64 (c:Int)) (P':=pkT kind c []) (a':=adZ) rfl S3.out.ps S3.out.pc S3.out.pf)
   clear hcs hgr S2
   go_wp2_with fail
   go_meet
   exact S4.out
 case rest=>
  have S3:=Lib.hid hcut
  clear hcut S2 HG
  go_upto_region 5 with fail
  obtain⟨T,hT⟩:∃T,L.tail=T:=⟨_,rfl⟩
  have HLF2:(if T=[] then([],0) else((qflw kind T).1,(qflw kind T).2.2))=(l,f):=by rw[←hT];exact HLF.out
  have HY2:=HY2.out
  rw[hT] at S3 HY2
  replace HY2:=Lib.hid HY2
  replace HLF2:=Lib.hid HLF2
  have hTl:T.length≤s.size:=by rw[←hT,List.length_tail,HS.out];omega
  have HTL:=Lib.hid hTl
  obtain⟨g,hg⟩:∃g,decide ((0:Int) < ((T.length:Nat):Int))=g:=⟨_,rfl⟩
  have LF1:Calls Tryz.prog 45 #[.pointer (some ⟨cb,0,none⟩)] wc fun e w'=>e = .returned (.int .i64 ((T.length:Nat):Int))∧KcS w cb s B ⟨T,0⟩ (pkT kind c []) adZ w':=
   (LF.out cb ⟨T,0⟩ wc S3.out.cs).mono fun e w' ⟨he,n,hn⟩=>⟨he,hn▸S3.out.draws n⟩
  have HG:=Lib.hid hg
  clear m
  obtain⟨m,hmm⟩:∃m:Int,((T.length:Nat):Int)=m:=⟨_,rfl⟩
  rw[hmm] at LF1 hg
  replace LF1:=Lib.hid LF1
  clear hmm S3 HLF hT hTl
  go_wp2_with fail
  refine(LF1.out).mono ?_
  rintro e W4 ⟨rfl,hS⟩
  have S4:=Lib.hid hS
  clear hS LF1
  go_upto_if 24 with fail
  clear hg
  go_cut [] (fun wx=>∃a,KcS w cb s B Y2 (pkT kind c l) a wx)
  case first=>
   have h1:=HG.out
   have h3:=HLF2.out
   cases g with
   | false=>
    have hn:T=[]:=by
     have:=of_decide_eq_false h1
     exact List.length_eq_zero_iff.1 (by omega)
    subst hn
    have h3:([],0)=(l,f):=h3
    cases h3
    have hy:=HY2.out
    subst hy
    go_wp2_with fail
    go_meet
    exact⟨adZ,S4.out⟩
   | true=>
    have hn:¬T=[]:=by
     rintro rfl
     exact absurd (of_decide_eq_true h1) (by decide)
    rw[if_neg hn] at h3
    obtain⟨l',k,f',hq⟩:∃l k f,qflw kind T=(l,k,f):=⟨_,_,_,rfl⟩
    rw[hq] at h3
    rw[show l'=l from congrArg Prod.fst h3,show f'=f from congrArg Prod.snd h3] at hq
    clear h3
    have R1:Calls Tryz.prog 48 #[.pointer (some ⟨cb,0,none⟩)] W4 fun e w'=>e = .returned (.string (bs T))∧KcS w cb s B ⟨T,0⟩ (pkT kind c []) adZ w':=
     (RS.out cb ⟨T,0⟩ W4 S4.out.cs).mono fun e w' ⟨he,n,hn⟩=>⟨he,hn▸S4.out.draws n⟩
    have RD:=fun W=>q188 kind (bs T) l k f HK.out.1 HK.out.2 (by rw[q5zk];have:=HTL.out;have:=HM.out;omega) hq W
    replace R1:=Lib.hid R1
    replace RD:=Lib.hid RD
    generalize bs T=X at *
    clear h1 hn hq S4 HG
    go_wp2_with fail
    refine(R1.out).mono ?_
    rintro e W5 ⟨rfl,hS⟩
    have S5:=Lib.hid hS
    clear hS R1
    go_wp2_with fail
    refine(RD.out _).mono ?_
    rintro e W6 ⟨hb,A,cc,rfl,hc,hP,-,-,hA⟩
    have S6:=Lib.hid (S5.out.below hb)
    have HP:=Lib.hid hP
    have HCC:=Lib.hid hc
    have HAA:=Lib.hid (fun g i (e:A=some ⟨g,i,none⟩)=>Nat.lt_of_lt_of_le (lt_of_block S5.out.pk) (hA g i e))
    clear hb hc hP hA S5 RD
    go_wp2_with fail
    refine(FL.out cb _ f _ S6.out.cs).mono ?_
    rintro e W7 ⟨rfl,hcs,hgr⟩
    have S7:=Lib.hid (S6.out.call hcs hgr)
    have P7:=Lib.hid (HP.out.grown hgr (fun g i e=>by have:=HAA.out g i e;have:=S6.out.hB;omega))
    have n24:W7.cell? ⟨B,24,none⟩=some (.slice none 0 0):=S7.out.cell 24
    have f24:=S7.out.fr 24
    have S8:=Lib.hid (S7.out.set 24 (.slice A l.length cc) (P':=pkT kind c l) (a':={adZ with ps:=A,pc:=cc}) rfl P7.out HCC.out HAA.out)
    clear hcs hgr S6
    go_wp2_with fail
    go_meet
    rw[←HY2.out]
    exact⟨_,S8.out⟩
  case rest=>
   obtain⟨a,hS⟩:=hcut
   have S5:=Lib.hid hS
   clear hS S4 HG HLF2 HY2 NM RS LF
   go_upto_region 9 with fail
   have TLa:Calls Tryz.prog 12 #[.int .i64 c,.slice a.ps l.length a.pc,.int .i64 kind] wc fun e w'=>e = .returned (.string (bs (q4py c l kind)))∧KcS w cb s B Y2 (pkT kind c l) a w':=
    (TL.out a.ps l.length a.pc wc S5.out.ps rfl S5.out.pc).mono fun e w' ⟨he,hb⟩=>⟨he,S5.out.below hb⟩
   have k21:wc.cell? ⟨B,21,none⟩=some (.int .i64 c):=S5.out.cell 21
   have k24:wc.cell? ⟨B,24,none⟩=some (.slice a.ps l.length a.pc):=S5.out.cell 24
   have hxs:=q5zk (q4py c l kind)
   have hdd:=HDD.out
   rw[←hxs,←HS.out] at hdd
   generalize bs (q4py c l kind)=X at *
   have hd2:decide ((X.size:Int) < (s.size:Int))=dd:=by rw[←hdd];congr 1;simp
   have TLH:=Lib.hid TLa
   clear TLa S5 hxs HDD TL
   go_wp2_with fail
   refine(TLH.out).mono ?_
   rintro e W5 ⟨rfl,hS⟩
   have S6:=Lib.hid hS
   clear hS TLH k21 k24
   go_upto_if 47 with fail
   clear hdd hd2
   go_cut [] (fun wx=>KcS w cb s B Y (pkT kind c l) a wx)
   case first=>
    cases dd with
    | true=>
     have FLa:=Lib.hid (FL.out cb Y2 5)
     go_wp2_with fail
     refine(FLa.out _ S6.out.cs).mono ?_
     rintro e W6 ⟨rfl,hcs,hgr⟩
     have S7:=Lib.hid (S6.out.call hcs hgr)
     clear hcs hgr
     go_wp2_with fail
     go_meet
     rw[←HY.out]
     exact S7.out
    | false=>
     go_wp2_with fail
     go_meet
     rw[←HY.out]
     exact S6.out
   case rest=>
    have S7:=Lib.hid hcut
    clear hcut S6 FL HY
    have hx:=qwmp (pkT kind c l) a
    have hy:=qmz0 (pkT kind c l) a
    have ER2:=Lib.hid (fun V (h:KcS w cb s B Y (pkT kind c l) a V)=>ER.out cb Y V h.cs)
    have RT:=Lib.hid (fun V (h:KcS w cb s B Y (pkT kind c l) a V)=>(show qv7v w (pkT kind c l,Y.e) (.returned (.tuple #[.agg (pkC (pkT kind c l) a),.int .i64 (Y.e:Nat)])) (V.setRow w.heap.size (pkC (pkT kind c l) a)) from
     ⟨a,rfl,h.ps.kept (by simp[World.setRow]) (fun g i e _=>setRow_other V w.heap.size g _ (by have:=h.pf g i e;have:=h.hB;have:=h.lt;omega)),h.pc,fun g i e=>by have:=h.pf g i e;have:=h.hB;have:=h.lt;omega,
      q8xz h.low (Nat.le_refl _) _⟩))
    have RS5:=Lib.hid (fun V (h:KcS w cb s B Y (pkT kind c l) a V)=>setRow_heap V w.heap.size _ (pkC (pkT kind c l) a) _ _ h.rs)
    obtain⟨C,hC⟩:∃C,pkC (pkT kind c l) a=C:=⟨_,rfl⟩
    rw[hC] at hx hy RT RS5
    have HC1:=Lib.hid hx
    have HC2:=Lib.hid hy
    have HCC:=Lib.hid hC
    clear hx hy hC
    go_upto_region 11 with fail
    refine qeqd (S:=KcS w cb s B Y (pkT kind c l) a) (b:=w.heap.size) (B:=B) (cb:=cb) (f:=(Y.e:Nat)) (C:=C) (S7.out.draws 1) HC1.out HC2.out (by have:=S7.out.hB;have:=S7.out.lt;omega) (fun V h=>by rw[←HCC.out];exact h.pk) (fun V h=>⟨_,h.rs,qbwp⟩) (fun V h=>ER2.out V h) (fun V h=>ER.out cb Y _ (h.cs.of_block (setRow_other V w.heap.size cb _ (by have:=h.lt;omega)))) ?_
    intro V h
    have G:=Lib.hid (RS5.out V h)
    have RTV:=Lib.hid (RT.out V h)
    clear h RT RS5
    go_wp2_with fail
    exact q8iy (cs:=C) rfl rfl rfl rfl Tryz.underlying35 rfl (by rw[HC1.out];exact q5nr) G.out RTV.out
end Go.Proofs.YtbklidpadffpgaaGreat
