/- The contract of prop.Read, as a law's walk wants it. Condition: the bytes are no more than an int says. -/
import Derived.Deep.DeepCutAuto
import Derived.Great.BuildSlice
import Derived.Deep.RegionHeld3
import Derived.Deep.LoopGhost
import Derived.Laws.ResultCell
import Derived.Test.YtbklidpadffpgaaGreatK45
import Derived.Test.YtbklidpadffpgaaGreatK10
import Derived.Test.YtbklidpadffpgaaGreatK06
import Derived.Test.YtbklidpadffpgaaGreatK12
import Derived.Test.YtbklidpadffpgaaGreatK39
import Derived.Test.YtbklidpadffpgaaGreatK21
import Derived.Test.YtbklidpadffpgaaGreatK43
import Derived.Test.YtbklidpadffpgaaGreatK14
import Derived.Test.YtbklidpadffpgaaGreatK19
import Derived.Test.YtbklidpadffpgaaGreatK26
import Derived.Test.YtbklidpadffpgaaGreatK42
import Derived.Test.YtbklidpadffpgaaGreatK36
import Derived.Test.YtbklidpadffpgaaGreatK41
set_option maxRecDepth 100000
set_option maxHeartbeats 4000000
namespace Go.Proofs.YtbklidpadffpgaaGreat
open Go.RowKit
theorem q188(kind:Int)(s:ByteArray)(L:List Pr)(k F:Nat)(hk0:-9223372036854775808≤kind)(hk1:kind≤9223372036854775807)(hm:s.size≤9223372036854775807)(hq:qflw kind s.data.toList=(L,k,F))(W:World) :
 Calls Tryz.prog 47 #[.int .i64 kind,.string s] W fun e W'=>Below W.heap.size W W'∧∃A c,e = .returned (.tuple #[.slice A L.length c,.int .i64 (k:Nat),.int .i64 (F:Nat)])∧L.length≤c∧PL W' A L∧(∀p∈L,PrOk p)∧L.length≤1000∧∀g i,A=some ⟨g,i,none⟩→W.heap.size≤g:=by
 have:=q3kx kind s W hk0 hk1 hm
 rw[hq] at this
 refine this.mono fun e W' ⟨hb,ok,hl,v,he,ho⟩=>⟨hb,?_⟩
 obtain⟨A,c,rfl,hc,hP,hg⟩:=PL.owned ho rfl
 exact⟨A,c,he,hc,hP,ok,hl,hg⟩
end Go.Proofs.YtbklidpadffpgaaGreat
namespace Go.Proofs.YtbklidpadffpgaaGreat
theorem qoa7{kind:Int}{p:Pr}(h:qr4y kind p=0):PrOk p∧p.text.length≤65535∧p.value.length≤65535:=by
 obtain⟨hm,h4,h5⟩:=qo1o h
 obtain⟨_,h1,h2,_⟩:=qttn h
 obtain⟨r1,r2⟩:=qilb hm
 obtain⟨f0,f7,f1,f2,f3,f4,_⟩:=qznl hm
 have hn:p.n < 4294967296:=by
  by_cases hs:qwgc p.id≤4
  ·have h6:=(h4 hs).2.2.2
   have hs4:qwgc p.id=1∨qwgc p.id=2∨qwgc p.id=3∨qwgc p.id=4:=by omega
   rcases hs4 with e | e | e | e
   ·have:=f1 e;omega
   ·have:=f2 e;omega
   ·have:=f3 e;omega
   ·have:=f4 e;omega
  ·have:=(h5 (by omega)).1;omega
 exact⟨⟨by omega,by omega,hn,by omega,by omega⟩,h1,h2⟩
theorem qdz1(kind:Int)(s:List UInt8):(∀p∈(qflw kind s).1,PrOk p∧p.text.length≤65535∧p.value.length≤65535)∧(qflw kind s).1.length≤1000:=by
 by_cases h:(qflw kind s).2.2=0
 ·have hv:=(qugf (show qflw kind s=((qflw kind s).1,(qflw kind s).2.1,0) by rw[←h])).1
  obtain⟨h1,h2,_⟩:=(qgl5 _ _).1 hv
  exact⟨fun p hp=>qoa7 (h2.1 p hp),h1⟩
 ·rw[qjfk h]
  exact⟨fun p hp=>(nomatch hp),Nat.zero_le _⟩
end Go.Proofs.YtbklidpadffpgaaGreat
namespace Go.Proofs.YtbklidpadffpgaaGreat
open Go.RowKit
def q300(l:List UInt8):Nat:=match l with | []=>0 | b::_=>b.toNat
def restP(kind:Int)(l:List UInt8):List Pr×Nat:=if l.tail=[] then([],0) else((qflw kind l.tail).1,(qflw kind l.tail).2.2)
theorem qiic(kind:Int)(l:List UInt8):q6u6 kind l=((q300 l,(restP kind l).1),(restP kind l).2):=by
 unfold q6u6 restP q300
 cases l with
 | nil=>rfl
 | cons b t=>
  by_cases ht:t=[]<;>simp[ht]
theorem q69d(l:List UInt8):q300 l < 256:=by
 unfold q300
 cases l with
 | nil=>decide
 | cons b t=>exact b.toNat_lt
theorem qzp7(kind:Int)(l:List UInt8):endK kind l=((if (decide ((q4py (q300 l) (restP kind l).1 kind).length < l.length)) then((Cs.mk l.tail 0).fail (restP kind l).2).fail 5 else(Cs.mk l.tail 0).fail (restP kind l).2)).e:=by
 unfold endK
 rw[qiic]
 simp only
 generalize (restP kind l).2=f
 by_cases h:(q4py (q300 l) (restP kind l).1 kind).length < l.length
 ·by_cases hf:f=0
  ·simp[Cs.fail,hf,h]
  ·simp[Cs.fail,hf,h]
 ·by_cases hf:f=0
  ·simp[Cs.fail,hf,h]
  ·simp[Cs.fail,hf,h]
def qv7v(w:World)(R:Pk×Nat)(e:Ending)(W:World):Prop:=
 ∃a:Ad,e = .returned (.tuple #[.agg (pkC R.1 a),.int .i64 (R.2:Nat)])∧PL W a.ps R.1.props∧R.1.props.length≤a.pc∧(∀g i,a.ps=some ⟨g,i,none⟩→w.heap.size≤g)∧Below w.heap.size w W
theorem qtnz(kind:Int)(s:ByteArray)(w:World)(hk0:-9223372036854775808≤kind)(hk1:kind≤9223372036854775807)(hm:s.size≤140737488351232) :
 Calls Tryz.prog 21 #[.int .i64 kind,.string s] w (qv7v w (pkT kind (q6u6 kind s.data.toList).1.1 (q6u6 kind s.data.toList).1.2,endK kind s.data.toList)):=by
 rw[qzp7,qiic]
 simp only
 have hm9:s.size≤9223372036854775807:=by omega
 have hsz:s.size=s.data.toList.length:=q4ad s
 obtain⟨L,hL⟩:∃L,s.data.toList=L:=⟨_,rfl⟩
 rw[hL] at hsz ⊢
 have hz:=q69d L
 obtain⟨c,hc⟩:∃c,q300 L=c:=⟨_,rfl⟩
 rw[hc] at hz ⊢
 obtain⟨⟨l,f⟩,hlf⟩:∃q,restP kind L=q:=⟨_,rfl⟩
 rw[hlf]
 simp only
 obtain⟨dd,hdd⟩:∃d,decide ((q4py c l kind).length < L.length)=d:=⟨_,rfl⟩
 rw[hdd]
 obtain⟨Y2,hY2⟩:∃Y,(Cs.mk L.tail 0).fail f=Y:=⟨_,rfl⟩
 rw[hY2]
 obtain⟨Y,hY⟩:∃Y,(if dd=true then Y2.fail 5 else Y2)=Y:=⟨_,rfl⟩
 rw[hY]
 have HDD:=Lib.hid hdd
 have HY2:=Lib.hid hY2
 have HY:=Lib.hid hY
 clear hdd hY2 hY
 have LF:=Lib.hid (fun(cb:Nat) (z:Cs) W (h:CsAt W cb s z)=>qjtm hm9 h)
 have NM:=Lib.hid (fun(cb:Nat) (z:Cs) W (h:CsAt W cb s z)=>q8yf 1 (by decide) hm9 h)
 have RS:=Lib.hid (fun(cb:Nat) (z:Cs) W (h:CsAt W cb s z)=>qzrp hm9 h)
 have FL:=Lib.hid (fun(cb:Nat) (x:Cs) (g:Nat) W (h:CsAt W cb s x)=>qazj g h)
 have ER:=Lib.hid (fun(cb:Nat) (x:Cs) W (h:CsAt W cb s x)=>q3gp h)
 have NW:=Lib.hid (fun W=>q2gu s W)
 have hprs:∀p∈l,PrOk p:=by
  unfold restP at hlf
  split at hlf
  ·cases hlf;exact fun p hp=>(nomatch hp)
  ·cases hlf;exact fun p hp=>((qdz1 _ _).1 p hp).1
 have TL:=Lib.hid (fun(A:Option Addr) (n cc:Nat) W (hl:PL W A l) (hn:l.length=n) (hc:n≤cc)=>qvrf c kind A n cc l W hk0 hk1 hl hn hc hprs)
 obtain⟨D,hD⟩:∃D,pkC (pkT kind 0 []) adZ=D:=⟨_,rfl⟩
 have HD1:=Lib.hid (by rw[←hD];exact qwmp _ _:D.size=25)
 have HD2:=Lib.hid (by rw[←hD];exact qmz0 _ _:D.all (·.oneCell')=true)
 have HD:=Lib.hid hD
 have HZ:=Lib.hid qbwp
 have hzv:=qrai
 have hne:¬pkZ=#[]:=by intro h;have:=qbwp;rw[h] at this;cases this
 have RS0:=Lib.hid (heap_alloc_new w (.cells pkZ 35))
 have ZW:=Lib.hid (show(w.alloc (.cells pkZ 35)).heap.size=w.heap.size+1 by simp)
 have L0:=Lib.hid (qybm (w:=w) (.cells pkZ 35))
 have HL:=Lib.hid hL
 have HC:=Lib.hid hc
 have HLF:=Lib.hid hlf
 have HS:=Lib.hid hsz
 have HM:=Lib.hid hm
 have HK:=Lib.hid (And.intro hk0 hk1)
 have HX:=Lib.hid hz
 clear hD hL hc hlf hsz hm hm9 hk0 hk1 hz hprs
 go_enter Tryz.func21,Tryz.ntmps21
 go_wp2_with fail
 generalize w.alloc (.cells pkZ 35)=W0 at *
 refine(NW.out _).mono ?_
 rintro e W1 ⟨rfl,hcur,hb1,hz1⟩
 have C1:=(show CsAt W1 W0.heap.size s ⟨L,0⟩ from⟨0,Nat.zero_le _,hcur,by simpa using HL.out⟩)
 replace C1:=Lib.hid C1
 have L1:=Lib.hid (qxh2 L0.out hb1)
 have R1:=Lib.hid ((hb1.block _ (lt_of_block RS0.out)).trans RS0.out)
 have S1:=Lib.hid (KcS.laid L1.out R1.out (by rw[ZW.out];omega) C1.out HD.out rfl)
 clear hcur hb1 hz1 C1 L1 R1 RS0 L0 NW
 generalize W0.heap.size=cb at *
 go_upto_region 3 with (first
  | (refine wpList_buildTo rfl 35 _ rfl (some _) rfl D (by rw[←HD.out];kernel_rfl) ?_)
  | (refine wpList_store_row rfl _ _ _ rfl W1.heap.size D rfl rfl 35 _ (heap_alloc_new W1 _) (by rw[HD1.out];exact q5nr) (by rw[HZ.out,HD1.out]) HD2.out ?_))
 generalize W1.heap.size=B at *
 generalize (W1.alloc (.cells pkZ 35)).setRow _ D=W2 at *
 clear hzv hne
 dsimp only[Act.put]
 obtain⟨g,hg⟩:∃g,decide ((0:Int) < ((L.length:Nat):Int))=g:=⟨_,rfl⟩
 have LF1:Calls Tryz.prog 45 #[.pointer (some ⟨cb,0,none⟩)] W2 fun e w'=>e = .returned (.int .i64 ((L.length:Nat):Int))∧KcS w cb s B ⟨L,0⟩ (pkT kind 0 []) adZ w':=
  (LF.out cb ⟨L,0⟩ W2 S1.out.cs).mono fun e w' ⟨he,n,hn⟩=>⟨he,hn▸S1.out.draws n⟩
 have HG:=Lib.hid hg
 obtain⟨m,hmm⟩:∃m:Int,((L.length:Nat):Int)=m:=⟨_,rfl⟩
 rw[hmm] at LF1 hg
 replace LF1:=Lib.hid LF1
 clear hmm S1
 go_wp2_with fail
 refine(LF1.out).mono ?_
 rintro e W3 ⟨rfl,hS⟩
 have S2:=Lib.hid hS
 clear hS LF1
 go_upto_if 17 with fail
 clear hg
 go_cut [] (fun wx=>KcS w cb s B ⟨L.tail,0⟩ (pkT kind c []) adZ wx)
 case first=>
  have h1:=HG.out
  have h2:=HC.out
  cases L with
  | nil=>
   have h1:false=g:=by rw[←h1];rfl
   subst h1
   have h2:0=c:=h2
   subst h2
   go_wp2_with fail
   go_meet
   exact S2.out
  | cons b t=>
   have h1:true=g:=by
    rw[←h1]
    exact(decide_eq_true (by simp only[List.length_cons];omega)).symm
   subst h1
   have h2:b.toNat=c:=h2
   have N1:=NM.out cb ⟨b::t,0⟩
   rw[Cs.num_one,h2] at N1
   replace N1:=Lib.hid N1
   have hc2:(c:Int) < 65536:=by have:=HX.out;omega
   have hw:IntKind.i64.wrap (c:Int)=(c:Int):=by rw[IntKind.wrap_i64];omega
   clear h2
   go_wp2_with fail
   refine(N1.out _ S2.out.cs).mono ?_
   rintro e W4 ⟨rfl,hcs,hgr⟩
   have S3:=Lib.hid (S2.out.call hcs hgr)
   have n21:W4.cell? ⟨B,21,none⟩=some (.int .i64 0):=S3.out.cell 21
   have f21:=S3.out.fr 21
   have S4:=Lib.hid (S3.out.set 21 (.int .i64 (c:Int)) (P':=pkT kind c []) (a':=adZ) rfl S3.out.ps S3.out.pc S3.out.pf)
   clear hcs hgr S2
   go_wp2_with fail
   go_meet
   exact S4.out
 case rest=>
  have S3:=Lib.hid hcut
  clear hcut S2 HG
  go_upto_region 5 with fail
  obtain⟨T,hT⟩:∃T,L.tail=T:=⟨_,rfl⟩
  have HLF2:(if T=[] then([],0) else((qflw kind T).1,(qflw kind T).2.2))=(l,f):=by rw[←hT];exact HLF.out
  have HY2:=HY2.out
  rw[hT] at S3 HY2
  replace HY2:=Lib.hid HY2
  replace HLF2:=Lib.hid HLF2
  have hTl:T.length≤s.size:=by rw[←hT,List.length_tail,HS.out];omega
  have HTL:=Lib.hid hTl
  obtain⟨g,hg⟩:∃g,decide ((0:Int) < ((T.length:Nat):Int))=g:=⟨_,rfl⟩
  have LF1:Calls Tryz.prog 45 #[.pointer (some ⟨cb,0,none⟩)] wc fun e w'=>e = .returned (.int .i64 ((T.length:Nat):Int))∧KcS w cb s B ⟨T,0⟩ (pkT kind c []) adZ w':=
   (LF.out cb ⟨T,0⟩ wc S3.out.cs).mono fun e w' ⟨he,n,hn⟩=>⟨he,hn▸S3.out.draws n⟩
  have HG:=Lib.hid hg
  clear m
  obtain⟨m,hmm⟩:∃m:Int,((T.length:Nat):Int)=m:=⟨_,rfl⟩
  rw[hmm] at LF1 hg
  replace LF1:=Lib.hid LF1
  clear hmm S3 HLF hT hTl
  go_wp2_with fail
  refine(LF1.out).mono ?_
  rintro e W4 ⟨rfl,hS⟩
  have S4:=Lib.hid hS
  clear hS LF1
  go_upto_if 24 with fail
  clear hg
  go_cut [] (fun wx=>∃a,KcS w cb s B Y2 (pkT kind c l) a wx)
  case first=>
   have h1:=HG.out
   have h3:=HLF2.out
   cases g with
   | false=>
    have hn:T=[]:=by
     have:=of_decide_eq_false h1
     exact List.length_eq_zero_iff.1 (by omega)
    subst hn
    have h3:([],0)=(l,f):=h3
    cases h3
    have hy:=HY2.out
    subst hy
    go_wp2_with fail
    go_meet
    exact⟨adZ,S4.out⟩
   | true=>
    have hn:¬T=[]:=by
     rintro rfl
     exact absurd (of_decide_eq_true h1) (by decide)
    rw[if_neg hn] at h3
    obtain⟨l',k,f',hq⟩:∃l k f,qflw kind T=(l,k,f):=⟨_,_,_,rfl⟩
    rw[hq] at h3
    rw[show l'=l from congrArg Prod.fst h3,show f'=f from congrArg Prod.snd h3] at hq
    clear h3
    have R1:Calls Tryz.prog 48 #[.pointer (some ⟨cb,0,none⟩)] W4 fun e w'=>e = .returned (.string (bs T))∧KcS w cb s B ⟨T,0⟩ (pkT kind c []) adZ w':=
     (RS.out cb ⟨T,0⟩ W4 S4.out.cs).mono fun e w' ⟨he,n,hn⟩=>⟨he,hn▸S4.out.draws n⟩
    have RD:=fun W=>q188 kind (bs T) l k f HK.out.1 HK.out.2 (by rw[q5zk];have:=HTL.out;have:=HM.out;omega) hq W
    replace R1:=Lib.hid R1
    replace RD:=Lib.hid RD
    generalize bs T=X at *
    clear h1 hn hq S4 HG
    go_wp2_with fail
    refine(R1.out).mono ?_
    rintro e W5 ⟨rfl,hS⟩
    have S5:=Lib.hid hS
    clear hS R1
    go_wp2_with fail
    refine(RD.out _).mono ?_
    rintro e W6 ⟨hb,A,cc,rfl,hc,hP,-,-,hA⟩
    have S6:=Lib.hid (S5.out.below hb)
    have HP:=Lib.hid hP
    have HCC:=Lib.hid hc
    have HAA:=Lib.hid (fun g i (e:A=some ⟨g,i,none⟩)=>Nat.lt_of_lt_of_le (lt_of_block S5.out.pk) (hA g i e))
    clear hb hc hP hA S5 RD
    go_wp2_with fail
    refine(FL.out cb _ f _ S6.out.cs).mono ?_
    rintro e W7 ⟨rfl,hcs,hgr⟩
    have S7:=Lib.hid (S6.out.call hcs hgr)
    have P7:=Lib.hid (HP.out.grown hgr (fun g i e=>by have:=HAA.out g i e;have:=S6.out.hB;omega))
    have n24:W7.cell? ⟨B,24,none⟩=some (.slice none 0 0):=S7.out.cell 24
    have f24:=S7.out.fr 24
    have S8:=Lib.hid (S7.out.set 24 (.slice A l.length cc) (P':=pkT kind c l) (a':={adZ with ps:=A,pc:=cc}) rfl P7.out HCC.out HAA.out)
    clear hcs hgr S6
    go_wp2_with fail
    go_meet
    rw[←HY2.out]
    exact⟨_,S8.out⟩
  case rest=>
   obtain⟨a,hS⟩:=hcut
   have S5:=Lib.hid hS
   clear hS S4 HG HLF2 HY2 NM RS LF
   go_upto_region 9 with fail
   have TLa:Calls Tryz.prog 12 #[.int .i64 c,.slice a.ps l.length a.pc,.int .i64 kind] wc fun e w'=>e = .returned (.string (bs (q4py c l kind)))∧KcS w cb s B Y2 (pkT kind c l) a w':=
    (TL.out a.ps l.length a.pc wc S5.out.ps rfl S5.out.pc).mono fun e w' ⟨he,hb⟩=>⟨he,S5.out.below hb⟩
   have k21:wc.cell? ⟨B,21,none⟩=some (.int .i64 c):=S5.out.cell 21
   have k24:wc.cell? ⟨B,24,none⟩=some (.slice a.ps l.length a.pc):=S5.out.cell 24
   have hxs:=q5zk (q4py c l kind)
   have hdd:=HDD.out
   rw[←hxs,←HS.out] at hdd
   generalize bs (q4py c l kind)=X at *
   have hd2:decide ((X.size:Int) < (s.size:Int))=dd:=by rw[←hdd];congr 1;simp
   have TLH:=Lib.hid TLa
   clear TLa S5 hxs HDD TL
   go_wp2_with fail
   refine(TLH.out).mono ?_
   rintro e W5 ⟨rfl,hS⟩
   have S6:=Lib.hid hS
   clear hS TLH k21 k24
   go_upto_if 47 with fail
   clear hdd hd2
   go_cut [] (fun wx=>KcS w cb s B Y (pkT kind c l) a wx)
   case first=>
    cases dd with
    | true=>
     have FLa:=Lib.hid (FL.out cb Y2 5)
     go_wp2_with fail
     refine(FLa.out _ S6.out.cs).mono ?_
     rintro e W6 ⟨rfl,hcs,hgr⟩
     have S7:=Lib.hid (S6.out.call hcs hgr)
     clear hcs hgr
     go_wp2_with fail
     go_meet
     rw[←HY.out]
     exact S7.out
    | false=>
     go_wp2_with fail
     go_meet
     rw[←HY.out]
     exact S6.out
   case rest=>
    have S7:=Lib.hid hcut
    clear hcut S6 FL HY
    have hx:=qwmp (pkT kind c l) a
    have hy:=qmz0 (pkT kind c l) a
    have ER2:=Lib.hid (fun V (h:KcS w cb s B Y (pkT kind c l) a V)=>ER.out cb Y V h.cs)
    have RT:=Lib.hid (fun V (h:KcS w cb s B Y (pkT kind c l) a V)=>(show qv7v w (pkT kind c l,Y.e) (.returned (.tuple #[.agg (pkC (pkT kind c l) a),.int .i64 (Y.e:Nat)])) (V.setRow w.heap.size (pkC (pkT kind c l) a)) from
     ⟨a,rfl,h.ps.kept (by simp[World.setRow]) (fun g i e _=>setRow_other V w.heap.size g _ (by have:=h.pf g i e;have:=h.hB;have:=h.lt;omega)),h.pc,fun g i e=>by have:=h.pf g i e;have:=h.hB;have:=h.lt;omega,
      q8xz h.low (Nat.le_refl _) _⟩))
    have RS5:=Lib.hid (fun V (h:KcS w cb s B Y (pkT kind c l) a V)=>setRow_heap V w.heap.size _ (pkC (pkT kind c l) a) _ _ h.rs)
    obtain⟨C,hC⟩:∃C,pkC (pkT kind c l) a=C:=⟨_,rfl⟩
    rw[hC] at hx hy RT RS5
    have HC1:=Lib.hid hx
    have HC2:=Lib.hid hy
    have HCC:=Lib.hid hC
    clear hx hy hC
    go_upto_region 11 with fail
    refine qeqd (S:=KcS w cb s B Y (pkT kind c l) a) (b:=w.heap.size) (B:=B) (cb:=cb) (f:=(Y.e:Nat)) (C:=C) (S7.out.draws 1) HC1.out HC2.out (by have:=S7.out.hB;have:=S7.out.lt;omega) (fun V h=>by rw[←HCC.out];exact h.pk) (fun V h=>⟨_,h.rs,qbwp⟩) (fun V h=>ER2.out V h) (fun V h=>ER.out cb Y _ (h.cs.of_block (setRow_other V w.heap.size cb _ (by have:=h.lt;omega)))) ?_
    intro V h
    have G:=Lib.hid (RS5.out V h)
    have RTV:=Lib.hid (RT.out V h)
    clear h RT RS5
    go_wp2_with fail
    exact q8iy (cs:=C) rfl rfl rfl rfl Tryz.underlying35 rfl (by rw[HC1.out];exact q5nr) G.out RTV.out
structure KtS(w:World)(B:Nat)(P:Pk)(a:Ad)(W:World):Prop where
 low:Below w.heap.size w W
 rs:W.heap[w.heap.size]? = some (.cells pkZ 35 (0,0))
 hB:w.heap.size < B
 pk:W.heap[B]? = some (.cells (pkC P a) 35 (0,0))
 at_:PkAt W P a
 pf:∀g i,a.ps=some ⟨g,i,none⟩→w.heap.size < g
theorem KtS.call{w W W':World}{B:Nat}{P:Pk}{a:Ad}(h:KtS w B P a W)(hb:Below W.heap.size W W'):KtS w B P a W':=
 ⟨qxh2 h.low hb,(hb.block _ (lt_of_block h.rs)).trans h.rs,h.hB,(hb.block _ (lt_of_block h.pk)).trans h.pk,h.at_.below hb,h.pf⟩
theorem qzm9{kind:Int}(hk:-9223372036854775808≤kind∧kind≤9223372036854775807)(l:List UInt8):FitA (pkT kind (q6u6 kind l).1.1 (q6u6 kind l).1.2):=by
 refine q0yw hk ?_
 rw[qiic]
 unfold restP
 split
 ·exact⟨fun p hp=>(nomatch hp),Nat.zero_le _⟩
 ·exact qdz1 _ _
theorem quz6(s:ByteArray):(s.toList==[])=decide (s.data.toList=[]):=by
 rw[qrze]
 cases s.data.toList<;>simp
theorem qpg4(v kind:Int)(s:ByteArray)(w:World)(hk0:-9223372036854775808≤kind)(hk1:kind≤9223372036854775807)(hm:s.size≤140737488351232) :
 Calls Tryz.prog 8 #[.int .i64 v,.int .i64 kind,.string s] w (qplq w (qf4x v kind s.data.toList)):=by
 have HZ:=Lib.hid qbwp
 have hzv:=qrai
 have hne:¬pkZ=#[]:=by intro h;have:=qbwp;rw[h] at this;cases this
 have PZ:Hid (pkZ.all (·.oneCell')=true):=Lib.hid (qmz0 Pk.zero adZ)
 have RZ:=Lib.hid (fun(e:Nat) W (hb:Below w.heap.size w W)=>(show qplq w (Pk.zero,e) (.returned (.tuple #[.agg pkZ,.int .i64 (e:Nat)])) (W.setRow w.heap.size pkZ) from⟨adZ,rfl,qa3p _,Nat.zero_le _,qkys,q8xz hb (Nat.le_refl _) _,fun _=>rfl⟩))
 rw[q54j]
 have TA:=Lib.hid (fun W=>qkgb v kind W hk0 hk1)
 have R0:=heap_alloc_new w (.cells pkZ 35)
 have L0:=qybm (w:=w) (.cells pkZ 35)
 have S0:=Lib.hid (And.intro L0 R0)
 have ST:=Lib.hid (fun W W' (h:Below w.heap.size w W∧W.heap[w.heap.size]? = some (.cells pkZ 35 (0,0))) (hb:Below W.heap.size W W')=>(⟨qxh2 h.1 hb,(hb.block _ (lt_of_block h.2)).trans h.2⟩:Below w.heap.size w W'∧W'.heap[w.heap.size]? = some (.cells pkZ 35 (0,0))))
 clear R0 L0
 obtain⟨⟨tl,q0⟩,hT⟩:∃t,qyjk v kind=t:=⟨_,rfl⟩
 rw[hT] at TA ⊢
 simp only at TA ⊢
 clear hT
 by_cases hq:q0=0
 ·subst hq
  rw[if_neg (by simp)]
  by_cases hb0:tl=false∧s.data.toList≠[]
  ·rw[if_pos hb0]
   obtain⟨rfl,hl⟩:=hb0
   have h1:(s.toList==[])=false:=by rw[quz6];exact decide_eq_false hl
   have h2:(s.toList != [])=true:=by rw[bne,h1];rfl
   clear hl hm hk0 hk1
   go_enter Tryz.func8,Tryz.ntmps8
   go_wp2_with fail
   refine(TA.out _).mono ?_
   rintro e W ⟨rfl,hb⟩
   have S1:=Lib.hid (ST.out _ _ S0.out hb)
   clear hb S0
   go_wp2_with (first
    | (refine wpList_buildTo rfl 35 _ rfl (some _) rfl pkZ (by kernel_rfl) ?_)
    | (refine wpList_store_row rfl _ _ _ rfl w.heap.size pkZ rfl rfl 35 _ S1.out.2 (by rw[HZ.out];exact q5nr) rfl PZ.out ?_))
   refine q8iy (cs:=pkZ) rfl rfl rfl rfl Tryz.underlying35 rfl (by rw[HZ.out];exact q5nr) (setRow_heap _ _ _ _ _ _ S1.out.2) ?_
   exact RZ.out 5 _ S1.out.1
  rw[if_neg hb0]
  have hg:tl=true∨tl=false∧(s.toList==[])=true∧(s.toList != [])=false:=by
   cases tl with
   | true=>exact .inl rfl
   | false=>
    have hl:s.data.toList=[]:=by
     by_cases h:s.data.toList=[]
     ·exact h
     ·exact absurd ⟨rfl,h⟩ hb0
    have h1:(s.toList==[])=true:=by rw[quz6];exact decide_eq_true hl
    exact .inr ⟨rfl,h1,by rw[bne,h1];rfl⟩
  have RD:=Lib.hid (fun W=>qtnz kind s W hk0 hk1 hm)
  have FI:=Lib.hid (qzm9 ⟨hk0,hk1⟩ s.data.toList)
  have VA:=Lib.hid (fun a W (h:PkAt W (pkT kind (q6u6 kind s.data.toList).1.1 (q6u6 kind s.data.toList).1.2) a) (hc:(pkT kind (q6u6 kind s.data.toList).1.1 (q6u6 kind s.data.toList).1.2).props.length≤a.pc)=>qcuz v _ a W h FI.out.2 FI.out.1 hc)
  have PT:=Lib.hid (fun W a (h:PL W a.ps (pkT kind (q6u6 kind s.data.toList).1.1 (q6u6 kind s.data.toList).1.2).props)=>(⟨fun e=>absurd rfl e,fun e=>absurd rfl e,fun e=>absurd rfl e,h⟩:PkAt W (pkT kind (q6u6 kind s.data.toList).1.1 (q6u6 kind s.data.toList).1.2) a))
  generalize pkT kind (q6u6 kind s.data.toList).1.1 (q6u6 kind s.data.toList).1.2=P at *
  generalize endK kind s.data.toList=f at *
  generalize validK v P=q at *
  obtain⟨R,hR⟩:∃R,(if (if f≠0 then f else q)≠0 then(Pk.zero,(if f≠0 then f else q)) else(P,0))=R:=⟨_,rfl⟩
  rw[hR]
  have HR:=Lib.hid hR
  clear hb0 hR hm hk0 hk1
  rcases hg with rfl | ⟨rfl,h1,h2⟩
  all_goals
   go_enter Tryz.func8,Tryz.ntmps8
   go_wp2_with fail
   refine(TA.out _).mono ?_
   rintro e W ⟨rfl,hb⟩
   have S1:=Lib.hid (ST.out _ _ S0.out hb)
   clear hb S0
   go_wp2_with fail
   refine(RD.out _).mono ?_
   rintro e W2 ⟨a,rfl,p1,p2,p3,hb⟩
   have S2:=Lib.hid (ST.out _ _ S1.out hb)
   have hbx:Below W2.heap.size W2 ((W2.alloc (.cells pkZ 35)).setRow W2.heap.size (pkC P a)):=q8xz (qybm (w:=W2) (.cells pkZ 35)) (Nat.le_refl _) (pkC P a)
   have S3:KtS w W2.heap.size P a ((W2.alloc (.cells pkZ 35)).setRow W2.heap.size (pkC P a)):=
    ⟨qxh2 S2.out.1 hbx,(hbx.block _ (lt_of_block S2.out.2)).trans S2.out.2,lt_of_block S2.out.2,setRow_heap _ _ _ _ _ _ (heap_alloc_new W2 _),(PT.out _ a p1).below hbx,fun g i e=>by have:=p3 g i e;have:=lt_of_block S1.out.2;omega⟩
   have S3:=Lib.hid S3
   have CP:=Lib.hid p2
   have hD1:=qwmp P a
   have hD2:=qmz0 P a
   obtain⟨D,hD⟩:∃D,pkC P a=D:=⟨_,rfl⟩
   rw[hD] at hD1 hD2 S3 ⊢
   have HD:=Lib.hid hD
   have HD1:=Lib.hid hD1
   have HD2:=Lib.hid hD2
   have PKD:=Lib.hid (fun V (h:KtS w W2.heap.size P a V)=>(by rw[←hD];exact h.pk:V.heap[W2.heap.size]? = some (.cells D 35 (0,0))))
   have VAa:=VA.out a
   have VAa:=fun V (h:KtS w W2.heap.size P a V)=>(VAa V h.at_ CP.out).mono fun e W' hh=>(⟨hh.1,h.call hh.2⟩:_∧KtS w W2.heap.size P a W')
   rw[hD] at VAa
   have VAa:=Lib.hid VAa
   have FINT:=Lib.hid (fun V (h:KtS w W2.heap.size P a V)=>(show qplq w (P,0) (.returned (.tuple #[.agg D,.int .i64 ((0:Nat):Int)])) (V.setRow w.heap.size D) from
    ⟨a,by rw[hD],PT.out _ a (h.at_.ps.kept (by simp[World.setRow]) (fun g i e _=>setRow_other V w.heap.size g _ (by have:=h.pf g i e;omega))),CP.out,FI.out,q8xz h.low (Nat.le_refl _) _,fun h=>absurd rfl h⟩))
   clear p1 p2 p3 hb S2 S1 hbx hD1 hD2 hD VA PT RD
   by_cases hf0:f=0
   ·subst hf0
    by_cases hq:q=0
    ·subst hq
     have hr:R=(P,0):=by rw[←HR.out];simp
     subst hr
     go_wp2_with (first
      | (refine wpList_store_row rfl _ _ _ rfl W2.heap.size D rfl rfl 35 _ (heap_alloc_new W2 _) (by rw[HD1.out];exact q5nr) (by rw[HZ.out,HD1.out]) HD2.out ?_)
      | (refine wpList_load_row rfl _ _ rfl W2.heap.size rfl 35 D (0,0) _ (PKD.out _ S3.out) Tryz.underlying35 rfl (by rw[HD1.out];exact q5nr) ?_))
     refine(VAa.out _ S3.out).mono ?_
     rintro e W4 ⟨rfl,hS⟩
     have S4:=Lib.hid hS
     have RS4:=Lib.hid hS.rs
     clear hS
     go_wp2_with (first
      | (refine wpList_store_row rfl _ _ _ rfl w.heap.size D rfl rfl 35 _ RS4.out (by rw[HD1.out];exact q5nr) (by rw[HZ.out,HD1.out]) HD2.out ?_)
      | (refine wpList_load_row rfl _ _ rfl W2.heap.size rfl 35 D (0,0) _ (PKD.out _ S4.out) Tryz.underlying35 rfl (by rw[HD1.out];exact q5nr) ?_))
     exact q8iy (cs:=D) rfl rfl rfl rfl Tryz.underlying35 rfl (by rw[HD1.out];exact q5nr) (setRow_heap _ _ _ _ _ _ RS4.out) (FINT.out _ S4.out)
    ·have hr:R=(Pk.zero,q):=by rw[←HR.out];simp[hq]
     subst hr
     have q1:((q:Int)==0)=false:=by simp;omega
     have q2:((q:Int) != 0)=true:=by simp;omega
     clear hq
     go_wp2_with (first
      | (refine wpList_store_row rfl _ _ _ rfl W2.heap.size D rfl rfl 35 _ (heap_alloc_new W2 _) (by rw[HD1.out];exact q5nr) (by rw[HZ.out,HD1.out]) HD2.out ?_)
      | (refine wpList_load_row rfl _ _ rfl W2.heap.size rfl 35 D (0,0) _ (PKD.out _ S3.out) Tryz.underlying35 rfl (by rw[HD1.out];exact q5nr) ?_))
     refine(VAa.out _ S3.out).mono ?_
     rintro e W4 ⟨rfl,hS⟩
     have RS4:=Lib.hid hS.rs
     have RT:=Lib.hid (RZ.out q W4 hS.low)
     clear hS
     go_wp2_with (first
      | (refine wpList_buildTo rfl 35 _ rfl (some _) rfl pkZ (by kernel_rfl) ?_)
      | (refine wpList_store_row rfl _ _ _ rfl w.heap.size pkZ rfl rfl 35 _ RS4.out (by rw[HZ.out];exact q5nr) rfl PZ.out ?_))
     exact q8iy (cs:=pkZ) rfl rfl rfl rfl Tryz.underlying35 rfl (by rw[HZ.out];exact q5nr) (setRow_heap _ _ _ _ _ _ RS4.out) RT.out
   ·have hr:R=(Pk.zero,f):=by rw[←HR.out];simp[hf0]
    subst hr
    have q1:((f:Int)==0)=false:=by simp;omega
    have q2:((f:Int) != 0)=true:=by simp;omega
    have RS4:=Lib.hid S3.out.rs
    have RT:=Lib.hid (RZ.out f _ S3.out.low)
    clear hf0
    go_wp2_with (first
     | (refine wpList_store_row rfl _ _ _ rfl W2.heap.size D rfl rfl 35 _ (heap_alloc_new W2 _) (by rw[HD1.out];exact q5nr) (by rw[HZ.out,HD1.out]) HD2.out ?_)
     | (refine wpList_buildTo rfl 35 _ rfl (some _) rfl pkZ (by kernel_rfl) ?_)
     | (refine wpList_store_row rfl _ _ _ rfl w.heap.size pkZ rfl rfl 35 _ RS4.out (by rw[HZ.out];exact q5nr) rfl PZ.out ?_))
    exact q8iy (cs:=pkZ) rfl rfl rfl rfl Tryz.underlying35 rfl (by rw[HZ.out];exact q5nr) (setRow_heap _ _ _ _ _ _ RS4.out) RT.out
 ·rw[if_pos hq]
  have q1:((q0:Int)==0)=false:=by simp;omega
  have q2:((q0:Int) != 0)=true:=by simp;omega
  clear hq hm hk0 hk1
  go_enter Tryz.func8,Tryz.ntmps8
  go_wp2_with fail
  refine(TA.out _).mono ?_
  rintro e W ⟨rfl,hb⟩
  have S1:=Lib.hid (ST.out _ _ S0.out hb)
  clear hb S0
  go_wp2_with (first
   | (refine wpList_buildTo rfl 35 _ rfl (some _) rfl pkZ (by kernel_rfl) ?_)
   | (refine wpList_store_row rfl _ _ _ rfl w.heap.size pkZ rfl rfl 35 _ S1.out.2 (by rw[HZ.out];exact q5nr) rfl PZ.out ?_))
  refine q8iy (cs:=pkZ) rfl rfl rfl rfl Tryz.underlying35 rfl (by rw[HZ.out];exact q5nr) (setRow_heap _ _ _ _ _ _ S1.out.2) ?_
  exact RZ.out q0 _ S1.out.1
section
variable{id n:Int}{st sv:ByteArray}
theorem q0sc(LK:∀W,Calls Tryz.prog 107 #[.int .i64 id] W fun e w'=>∃A m x y,e = .returned (.agg #[.int .i64 1,.slice A m m,.int .u32 x,.int .u32 y])∧Below W.heap.size W w')(hw:IntKind.u64.wrap n=n){R:ByteArray}(PU:∀W,Calls Tryz.prog 136 #[.int .u64 n,.int .i64 1] W fun e w'=>e = .returned (.string R)∧Below W.heap.size W w')(w:World) :
 Calls Tryz.prog 112 #[.agg #[.int .i64 id,.int .u32 n,.string st,.string sv]] w fun e w'=>e = .returned (.string R)∧Below w.heap.size w w':=by
 have hb0:=heap_alloc_new w (.cells #[.int .i64 id,.int .u32 n,.string st,.string sv] 25)
 have hB0:Below w.heap.size w (w.alloc (.cells #[.int .i64 id,.int .u32 n,.string st,.string sv] 25)):=(Below.refl _ _).alloc (Nat.le_refl _) _
 have LK:=Lib.hid LK
 have PU:=Lib.hid PU
 have P0:=Lib.hid hb0
 have B0:=Lib.hid hB0
 have c0:=cell_of_row _ w.heap.size 0 _ _ _ hb0
 clear hb0 hB0
 go_enter Tryz.func112,Tryz.ntmps112
 go_wp2_with fail
 refine(LK.out _).mono ?_
 rintro e w1 ⟨A,m,x,y,rfl,hb⟩
 have P:=Lib.hid ((hb.block w.heap.size (by rw[World.size_alloc];omega)).trans P0.out)
 have B:=Lib.hid (B0.out.trans (hb.mono B0.out.size))
 have F0:=qkrp 1 A m m x y
 clear hb c0
 have c0:=cell_of_row _ w.heap.size 0 _ _ _ P.out
 have c1:=cell_of_row _ w.heap.size 1 _ _ _ P.out
 have c2:=cell_of_row _ w.heap.size 2 _ _ _ P.out
 have c3:=cell_of_row _ w.heap.size 3 _ _ _ P.out
 go_wp2_with fail
 refine(PU.out _).mono ?_
 rintro e w2 ⟨rfl,hb⟩
 have P:=Lib.hid ((hb.block w.heap.size (lt_of_block P.out)).trans P.out)
 have B:=Lib.hid (B.out.trans (hb.mono B.out.size))
 clear hb c0 c1 c2 c3
 have c0:=cell_of_row _ w.heap.size 0 _ _ _ P.out
 have c1:=cell_of_row _ w.heap.size 1 _ _ _ P.out
 have c2:=cell_of_row _ w.heap.size 2 _ _ _ P.out
 have c3:=cell_of_row _ w.heap.size 3 _ _ _ P.out
 go_wp2_with fail
 go_ret
 exact⟨rfl,B.out⟩
theorem qqo9(LK:∀W,Calls Tryz.prog 107 #[.int .i64 id] W fun e w'=>∃A m x y,e = .returned (.agg #[.int .i64 2,.slice A m m,.int .u32 x,.int .u32 y])∧Below W.heap.size W w')(hw:IntKind.u64.wrap n=n){R:ByteArray}(PU:∀W,Calls Tryz.prog 136 #[.int .u64 n,.int .i64 2] W fun e w'=>e = .returned (.string R)∧Below W.heap.size W w')(w:World) :
 Calls Tryz.prog 112 #[.agg #[.int .i64 id,.int .u32 n,.string st,.string sv]] w fun e w'=>e = .returned (.string R)∧Below w.heap.size w w':=by
 have hb0:=heap_alloc_new w (.cells #[.int .i64 id,.int .u32 n,.string st,.string sv] 25)
 have hB0:Below w.heap.size w (w.alloc (.cells #[.int .i64 id,.int .u32 n,.string st,.string sv] 25)):=(Below.refl _ _).alloc (Nat.le_refl _) _
 have LK:=Lib.hid LK
 have PU:=Lib.hid PU
 have P0:=Lib.hid hb0
 have B0:=Lib.hid hB0
 have c0:=cell_of_row _ w.heap.size 0 _ _ _ hb0
 clear hb0 hB0
 go_enter Tryz.func112,Tryz.ntmps112
 go_wp2_with fail
 refine(LK.out _).mono ?_
 rintro e w1 ⟨A,m,x,y,rfl,hb⟩
 have P:=Lib.hid ((hb.block w.heap.size (by rw[World.size_alloc];omega)).trans P0.out)
 have B:=Lib.hid (B0.out.trans (hb.mono B0.out.size))
 have F0:=qkrp 2 A m m x y
 clear hb c0
 have c0:=cell_of_row _ w.heap.size 0 _ _ _ P.out
 have c1:=cell_of_row _ w.heap.size 1 _ _ _ P.out
 have c2:=cell_of_row _ w.heap.size 2 _ _ _ P.out
 have c3:=cell_of_row _ w.heap.size 3 _ _ _ P.out
 go_wp2_with fail
 refine(PU.out _).mono ?_
 rintro e w2 ⟨rfl,hb⟩
 have P:=Lib.hid ((hb.block w.heap.size (lt_of_block P.out)).trans P.out)
 have B:=Lib.hid (B.out.trans (hb.mono B.out.size))
 clear hb c0 c1 c2 c3
 have c0:=cell_of_row _ w.heap.size 0 _ _ _ P.out
 have c1:=cell_of_row _ w.heap.size 1 _ _ _ P.out
 have c2:=cell_of_row _ w.heap.size 2 _ _ _ P.out
 have c3:=cell_of_row _ w.heap.size 3 _ _ _ P.out
 go_wp2_with fail
 go_ret
 exact⟨rfl,B.out⟩
theorem qwbv(LK:∀W,Calls Tryz.prog 107 #[.int .i64 id] W fun e w'=>∃A m x y,e = .returned (.agg #[.int .i64 3,.slice A m m,.int .u32 x,.int .u32 y])∧Below W.heap.size W w')(hw:IntKind.u64.wrap n=n){R:ByteArray}(PU:∀W,Calls Tryz.prog 136 #[.int .u64 n,.int .i64 4] W fun e w'=>e = .returned (.string R)∧Below W.heap.size W w')(w:World) :
 Calls Tryz.prog 112 #[.agg #[.int .i64 id,.int .u32 n,.string st,.string sv]] w fun e w'=>e = .returned (.string R)∧Below w.heap.size w w':=by
 have hb0:=heap_alloc_new w (.cells #[.int .i64 id,.int .u32 n,.string st,.string sv] 25)
 have hB0:Below w.heap.size w (w.alloc (.cells #[.int .i64 id,.int .u32 n,.string st,.string sv] 25)):=(Below.refl _ _).alloc (Nat.le_refl _) _
 have LK:=Lib.hid LK
 have PU:=Lib.hid PU
 have P0:=Lib.hid hb0
 have B0:=Lib.hid hB0
 have c0:=cell_of_row _ w.heap.size 0 _ _ _ hb0
 clear hb0 hB0
 go_enter Tryz.func112,Tryz.ntmps112
 go_wp2_with fail
 refine(LK.out _).mono ?_
 rintro e w1 ⟨A,m,x,y,rfl,hb⟩
 have P:=Lib.hid ((hb.block w.heap.size (by rw[World.size_alloc];omega)).trans P0.out)
 have B:=Lib.hid (B0.out.trans (hb.mono B0.out.size))
 have F0:=qkrp 3 A m m x y
 clear hb c0
 have c0:=cell_of_row _ w.heap.size 0 _ _ _ P.out
 have c1:=cell_of_row _ w.heap.size 1 _ _ _ P.out
 have c2:=cell_of_row _ w.heap.size 2 _ _ _ P.out
 have c3:=cell_of_row _ w.heap.size 3 _ _ _ P.out
 go_wp2_with fail
 refine(PU.out _).mono ?_
 rintro e w2 ⟨rfl,hb⟩
 have P:=Lib.hid ((hb.block w.heap.size (lt_of_block P.out)).trans P.out)
 have B:=Lib.hid (B.out.trans (hb.mono B.out.size))
 clear hb c0 c1 c2 c3
 have c0:=cell_of_row _ w.heap.size 0 _ _ _ P.out
 have c1:=cell_of_row _ w.heap.size 1 _ _ _ P.out
 have c2:=cell_of_row _ w.heap.size 2 _ _ _ P.out
 have c3:=cell_of_row _ w.heap.size 3 _ _ _ P.out
 go_wp2_with fail
 go_ret
 exact⟨rfl,B.out⟩
theorem qbt6(LK:∀W,Calls Tryz.prog 107 #[.int .i64 id] W fun e w'=>∃A m x y,e = .returned (.agg #[.int .i64 4,.slice A m m,.int .u32 x,.int .u32 y])∧Below W.heap.size W w')(hw:IntKind.i64.wrap n=n){R:ByteArray}{z:Int}(PU:∀W,Calls Tryz.prog 137 #[.int .i64 n] W fun e w'=>e = .returned (.tuple #[.string R,.int .i64 z])∧Below W.heap.size W w')(w:World) :
 Calls Tryz.prog 112 #[.agg #[.int .i64 id,.int .u32 n,.string st,.string sv]] w fun e w'=>e = .returned (.string R)∧Below w.heap.size w w':=by
 have hb0:=heap_alloc_new w (.cells #[.int .i64 id,.int .u32 n,.string st,.string sv] 25)
 have hB0:Below w.heap.size w (w.alloc (.cells #[.int .i64 id,.int .u32 n,.string st,.string sv] 25)):=(Below.refl _ _).alloc (Nat.le_refl _) _
 have LK:=Lib.hid LK
 have PU:=Lib.hid PU
 have P0:=Lib.hid hb0
 have B0:=Lib.hid hB0
 have c0:=cell_of_row _ w.heap.size 0 _ _ _ hb0
 clear hb0 hB0
 go_enter Tryz.func112,Tryz.ntmps112
 go_wp2_with fail
 refine(LK.out _).mono ?_
 rintro e w1 ⟨A,m,x,y,rfl,hb⟩
 have P:=Lib.hid ((hb.block w.heap.size (by rw[World.size_alloc];omega)).trans P0.out)
 have B:=Lib.hid (B0.out.trans (hb.mono B0.out.size))
 have F0:=qkrp 4 A m m x y
 clear hb c0
 have c0:=cell_of_row _ w.heap.size 0 _ _ _ P.out
 have c1:=cell_of_row _ w.heap.size 1 _ _ _ P.out
 have c2:=cell_of_row _ w.heap.size 2 _ _ _ P.out
 have c3:=cell_of_row _ w.heap.size 3 _ _ _ P.out
 go_wp2_with fail
 refine(PU.out _).mono ?_
 rintro e w2 ⟨rfl,hb⟩
 have P:=Lib.hid ((hb.block w.heap.size (lt_of_block P.out)).trans P.out)
 have B:=Lib.hid (B.out.trans (hb.mono B.out.size))
 clear hb c0 c1 c2 c3
 have c0:=cell_of_row _ w.heap.size 0 _ _ _ P.out
 have c1:=cell_of_row _ w.heap.size 1 _ _ _ P.out
 have c2:=cell_of_row _ w.heap.size 2 _ _ _ P.out
 have c3:=cell_of_row _ w.heap.size 3 _ _ _ P.out
 go_wp2_with fail
 go_ret
 exact⟨rfl,B.out⟩
theorem q9o4(LK:∀W,Calls Tryz.prog 107 #[.int .i64 id] W fun e w'=>∃A m x y,e = .returned (.agg #[.int .i64 5,.slice A m m,.int .u32 x,.int .u32 y])∧Below W.heap.size W w'){R:ByteArray}{z:Int}(BT:∀W,Calls Tryz.prog 138 #[.string st] W fun e w'=>e = .returned (.tuple #[.string R,.int .i64 z])∧Below W.heap.size W w')(w:World) :
 Calls Tryz.prog 112 #[.agg #[.int .i64 id,.int .u32 n,.string st,.string sv]] w fun e w'=>e = .returned (.string R)∧Below w.heap.size w w':=by
 have hb0:=heap_alloc_new w (.cells #[.int .i64 id,.int .u32 n,.string st,.string sv] 25)
 have hB0:Below w.heap.size w (w.alloc (.cells #[.int .i64 id,.int .u32 n,.string st,.string sv] 25)):=(Below.refl _ _).alloc (Nat.le_refl _) _
 have LK:=Lib.hid LK
 have BT:=Lib.hid BT
 have P0:=Lib.hid hb0
 have B0:=Lib.hid hB0
 have c0:=cell_of_row _ w.heap.size 0 _ _ _ hb0
 clear hb0 hB0
 go_enter Tryz.func112,Tryz.ntmps112
 go_wp2_with fail
 refine(LK.out _).mono ?_
 rintro e w1 ⟨A,m,x,y,rfl,hb⟩
 have P:=Lib.hid ((hb.block w.heap.size (by rw[World.size_alloc];omega)).trans P0.out)
 have B:=Lib.hid (B0.out.trans (hb.mono B0.out.size))
 have F0:=qkrp 5 A m m x y
 clear hb c0
 have c0:=cell_of_row _ w.heap.size 0 _ _ _ P.out
 have c1:=cell_of_row _ w.heap.size 1 _ _ _ P.out
 have c2:=cell_of_row _ w.heap.size 2 _ _ _ P.out
 have c3:=cell_of_row _ w.heap.size 3 _ _ _ P.out
 go_wp2_with fail
 refine(BT.out _).mono ?_
 rintro e w2 ⟨rfl,hb⟩
 have P:=Lib.hid ((hb.block w.heap.size (lt_of_block P.out)).trans P.out)
 have B:=Lib.hid (B.out.trans (hb.mono B.out.size))
 clear hb c0 c1 c2 c3
 have c0:=cell_of_row _ w.heap.size 0 _ _ _ P.out
 have c1:=cell_of_row _ w.heap.size 1 _ _ _ P.out
 have c2:=cell_of_row _ w.heap.size 2 _ _ _ P.out
 have c3:=cell_of_row _ w.heap.size 3 _ _ _ P.out
 go_wp2_with fail
 refine(LK.out _).mono ?_
 rintro e w3 ⟨A,m,x,y,rfl,hb⟩
 have F0:=qkrp 5 A m m x y
 have P:=Lib.hid ((hb.block w.heap.size (lt_of_block P.out)).trans P.out)
 have B:=Lib.hid (B.out.trans (hb.mono B.out.size))
 clear hb c0 c1 c2 c3
 have c0:=cell_of_row _ w.heap.size 0 _ _ _ P.out
 have c1:=cell_of_row _ w.heap.size 1 _ _ _ P.out
 have c2:=cell_of_row _ w.heap.size 2 _ _ _ P.out
 have c3:=cell_of_row _ w.heap.size 3 _ _ _ P.out
 go_wp2_with fail
 go_ret
 exact⟨rfl,B.out⟩
theorem qfll(LK:∀W,Calls Tryz.prog 107 #[.int .i64 id] W fun e w'=>∃A m x y,e = .returned (.agg #[.int .i64 6,.slice A m m,.int .u32 x,.int .u32 y])∧Below W.heap.size W w'){R:ByteArray}{z:Int}(BT:∀W,Calls Tryz.prog 138 #[.string st] W fun e w'=>e = .returned (.tuple #[.string R,.int .i64 z])∧Below W.heap.size W w')(w:World) :
 Calls Tryz.prog 112 #[.agg #[.int .i64 id,.int .u32 n,.string st,.string sv]] w fun e w'=>e = .returned (.string R)∧Below w.heap.size w w':=by
 have hb0:=heap_alloc_new w (.cells #[.int .i64 id,.int .u32 n,.string st,.string sv] 25)
 have hB0:Below w.heap.size w (w.alloc (.cells #[.int .i64 id,.int .u32 n,.string st,.string sv] 25)):=(Below.refl _ _).alloc (Nat.le_refl _) _
 have LK:=Lib.hid LK
 have BT:=Lib.hid BT
 have P0:=Lib.hid hb0
 have B0:=Lib.hid hB0
 have c0:=cell_of_row _ w.heap.size 0 _ _ _ hb0
 clear hb0 hB0
 go_enter Tryz.func112,Tryz.ntmps112
 go_wp2_with fail
 refine(LK.out _).mono ?_
 rintro e w1 ⟨A,m,x,y,rfl,hb⟩
 have P:=Lib.hid ((hb.block w.heap.size (by rw[World.size_alloc];omega)).trans P0.out)
 have B:=Lib.hid (B0.out.trans (hb.mono B0.out.size))
 have F0:=qkrp 6 A m m x y
 clear hb c0
 have c0:=cell_of_row _ w.heap.size 0 _ _ _ P.out
 have c1:=cell_of_row _ w.heap.size 1 _ _ _ P.out
 have c2:=cell_of_row _ w.heap.size 2 _ _ _ P.out
 have c3:=cell_of_row _ w.heap.size 3 _ _ _ P.out
 go_wp2_with fail
 refine(BT.out _).mono ?_
 rintro e w2 ⟨rfl,hb⟩
 have P:=Lib.hid ((hb.block w.heap.size (lt_of_block P.out)).trans P.out)
 have B:=Lib.hid (B.out.trans (hb.mono B.out.size))
 clear hb c0 c1 c2 c3
 have c0:=cell_of_row _ w.heap.size 0 _ _ _ P.out
 have c1:=cell_of_row _ w.heap.size 1 _ _ _ P.out
 have c2:=cell_of_row _ w.heap.size 2 _ _ _ P.out
 have c3:=cell_of_row _ w.heap.size 3 _ _ _ P.out
 go_wp2_with fail
 refine(LK.out _).mono ?_
 rintro e w3 ⟨A,m,x,y,rfl,hb⟩
 have F0:=qkrp 6 A m m x y
 have P:=Lib.hid ((hb.block w.heap.size (lt_of_block P.out)).trans P.out)
 have B:=Lib.hid (B.out.trans (hb.mono B.out.size))
 clear hb c0 c1 c2 c3
 have c0:=cell_of_row _ w.heap.size 0 _ _ _ P.out
 have c1:=cell_of_row _ w.heap.size 1 _ _ _ P.out
 have c2:=cell_of_row _ w.heap.size 2 _ _ _ P.out
 have c3:=cell_of_row _ w.heap.size 3 _ _ _ P.out
 go_wp2_with fail
 go_ret
 exact⟨rfl,B.out⟩
theorem q5gg(LK:∀W,Calls Tryz.prog 107 #[.int .i64 id] W fun e w'=>∃A m x y,e = .returned (.agg #[.int .i64 7,.slice A m m,.int .u32 x,.int .u32 y])∧Below W.heap.size W w'){R:ByteArray}{z:Int}(BT:∀W,Calls Tryz.prog 138 #[.string st] W fun e w'=>e = .returned (.tuple #[.string R,.int .i64 z])∧Below W.heap.size W w'){R2:ByteArray}{z2:Int}(BV:∀W,Calls Tryz.prog 138 #[.string sv] W fun e w'=>e = .returned (.tuple #[.string R2,.int .i64 z2])∧Below W.heap.size W w')(hnl:¬9223372036854775807 < R.size+R2.size)(w:World) :
 Calls Tryz.prog 112 #[.agg #[.int .i64 id,.int .u32 n,.string st,.string sv]] w fun e w'=>e = .returned (.string (R++R2))∧Below w.heap.size w w':=by
 have hb0:=heap_alloc_new w (.cells #[.int .i64 id,.int .u32 n,.string st,.string sv] 25)
 have hB0:Below w.heap.size w (w.alloc (.cells #[.int .i64 id,.int .u32 n,.string st,.string sv] 25)):=(Below.refl _ _).alloc (Nat.le_refl _) _
 have LK:=Lib.hid LK
 have BT:=Lib.hid BT
 have BV:=Lib.hid BV
 have P0:=Lib.hid hb0
 have B0:=Lib.hid hB0
 have c0:=cell_of_row _ w.heap.size 0 _ _ _ hb0
 clear hb0 hB0
 go_enter Tryz.func112,Tryz.ntmps112
 go_wp2_with fail
 refine(LK.out _).mono ?_
 rintro e w1 ⟨A,m,x,y,rfl,hb⟩
 have P:=Lib.hid ((hb.block w.heap.size (by rw[World.size_alloc];omega)).trans P0.out)
 have B:=Lib.hid (B0.out.trans (hb.mono B0.out.size))
 have F0:=qkrp 7 A m m x y
 clear hb c0
 have c0:=cell_of_row _ w.heap.size 0 _ _ _ P.out
 have c1:=cell_of_row _ w.heap.size 1 _ _ _ P.out
 have c2:=cell_of_row _ w.heap.size 2 _ _ _ P.out
 have c3:=cell_of_row _ w.heap.size 3 _ _ _ P.out
 go_wp2_with fail
 refine(BT.out _).mono ?_
 rintro e w2 ⟨rfl,hb⟩
 have P:=Lib.hid ((hb.block w.heap.size (lt_of_block P.out)).trans P.out)
 have B:=Lib.hid (B.out.trans (hb.mono B.out.size))
 clear hb c0 c1 c2 c3
 have c0:=cell_of_row _ w.heap.size 0 _ _ _ P.out
 have c1:=cell_of_row _ w.heap.size 1 _ _ _ P.out
 have c2:=cell_of_row _ w.heap.size 2 _ _ _ P.out
 have c3:=cell_of_row _ w.heap.size 3 _ _ _ P.out
 go_wp2_with fail
 refine(LK.out _).mono ?_
 rintro e w3 ⟨A,m,x,y,rfl,hb⟩
 have F0:=qkrp 7 A m m x y
 have P:=Lib.hid ((hb.block w.heap.size (lt_of_block P.out)).trans P.out)
 have B:=Lib.hid (B.out.trans (hb.mono B.out.size))
 clear hb c0 c1 c2 c3
 have c0:=cell_of_row _ w.heap.size 0 _ _ _ P.out
 have c1:=cell_of_row _ w.heap.size 1 _ _ _ P.out
 have c2:=cell_of_row _ w.heap.size 2 _ _ _ P.out
 have c3:=cell_of_row _ w.heap.size 3 _ _ _ P.out
 go_wp2_with fail
 refine(BV.out _).mono ?_
 rintro e w4 ⟨rfl,hb⟩
 have P:=Lib.hid ((hb.block w.heap.size (lt_of_block P.out)).trans P.out)
 have B:=Lib.hid (B.out.trans (hb.mono B.out.size))
 clear hb c0 c1 c2 c3
 have c0:=cell_of_row _ w.heap.size 0 _ _ _ P.out
 have c1:=cell_of_row _ w.heap.size 1 _ _ _ P.out
 have c2:=cell_of_row _ w.heap.size 2 _ _ _ P.out
 have c3:=cell_of_row _ w.heap.size 3 _ _ _ P.out
 go_wp2_with fail
 go_ret
 exact⟨rfl,B.out⟩
end
theorem qq3r{kind:Int}(p:Pr)(ck:qr4y kind p=0)(w:World) :
 Calls Tryz.prog 112 #[qbhk p] w fun e w'=>e = .returned (.string (bs (qgdb p)))∧Below w.heap.size w w':=by
 obtain⟨hm,h4,h5⟩:=qo1o ck
 obtain⟨r1,r2,f1,f2,f3,f4,_⟩:=qznl hm
 have LK:=fun W=>(q43i p.id W).mono (R':=fun e w'=>∃A m x y,e = .returned (.agg #[.int .i64 ((qwgc p.id:Nat):Int),.slice A m m,.int .u32 x,.int .u32 y])∧Below W.heap.size W w') (fun e w' ⟨A,h1,h2,_⟩=>⟨A,_,_,_,h1,h2⟩)
 have hh:qwgc p.id=1∨qwgc p.id=2∨qwgc p.id=3∨qwgc p.id=4∨qwgc p.id=5∨qwgc p.id=6∨qwgc p.id=7:=by omega
 unfold qgdb qbhk
 rcases hh with s | s | s | s | s | s | s
 ·rw[s] at LK
  rw[if_pos s]
  obtain⟨_,_,_,hn⟩:=h4 (by omega)
  have:=f1 s
  exact q0sc LK (by simp only[IntKind.wrap_u64];omega) (fun W=>qeva p.n 1 W (by omega) (by decide) (by decide)) w
 ·rw[s] at LK
  rw[if_neg (by omega),if_pos s]
  obtain⟨_,_,_,hn⟩:=h4 (by omega)
  have:=f2 s
  exact qqo9 LK (by simp only[IntKind.wrap_u64];omega) (fun W=>qeva p.n 2 W (by omega) (by decide) (by decide)) w
 ·rw[s] at LK
  rw[if_neg (by omega),if_neg (by omega),if_pos s]
  obtain⟨_,_,_,hn⟩:=h4 (by omega)
  have:=f3 s
  exact qwbv LK (by simp only[IntKind.wrap_u64];omega) (fun W=>qeva p.n 4 W (by omega) (by decide) (by decide)) w
 ·rw[s] at LK
  rw[if_neg (by omega),if_neg (by omega),if_neg (by omega),if_pos s]
  obtain⟨_,_,_,hn⟩:=h4 (by omega)
  have:=f4 s
  exact qbt6 LK (by simp only[IntKind.wrap_i64];omega) (fun W=>qwha p.n W (by omega)) w
 all_goals
  rw[if_neg (by omega),if_neg (by omega),if_neg (by omega),if_neg (by omega)]
  obtain⟨_,hv7,hv6,hvt⟩:=h5 (by omega)
  rw[s] at LK
 ·rw[if_neg (by omega)]
  obtain⟨v1,v2⟩:=hvt (by omega)
  have l1:=((qbv6 _).1 v1).1
  exact q9o4 LK (fun W=>q5pn (bs p.text) W (by rw[q5zk];exact l1)) w
 ·rw[if_neg (by omega)]
  have l1:=hv6 s
  exact qfll LK (fun W=>q5pn (bs p.text) W (by rw[q5zk];exact l1)) w
 ·rw[if_pos s]
  obtain⟨v1,v2⟩:=hvt (by omega)
  have l1:=((qbv6 _).1 v1).1
  have l2:=((qbv6 _).1 v2).1
  have:=q5gg (st:=bs p.text) (sv:=bs p.value) (n:=p.n) LK (fun W=>q5pn (bs p.text) W (by rw[q5zk];exact l1)) (fun W=>q5pn (bs p.value) W (by rw[q5zk];exact l2)) (by rw[q5zk,q5zk,qnp6,qnp6,qkd1,qkd1];omega) w
  rw[qyv7] at this
  exact this
def RsAt(W:World)(cb:Nat)(s:ByteArray)(x:Cs):Prop:=∃i,i≤s.size∧Ref W cb s i (x.e:Nat)∧s.data.toList.drop i=x.r
theorem qo1z(s:ByteArray)(i:Nat)(hi:i≤s.size):s.extract i s.size=bs (s.data.toList.drop i):=by
 have h:=q31q s i (s.size - i)
 rw[Nat.add_sub_cancel' hi] at h
 rw[h,List.take_of_length_le (by rw[List.length_drop,←q4ad];exact Nat.le_refl _)]
section
variable{w W W':World}{cb:Nat}{s:ByteArray}{x:Cs}
theorem RsAt.lt(h:RsAt W cb s x):cb < W.heap.size:=by obtain⟨i,_,hc,_⟩:=h;exact hc.lt
theorem RsAt.of_block(h:RsAt W cb s x)(hb:W'.heap[cb]? = W.heap[cb]?):RsAt W' cb s x:=by obtain⟨i,hi,hc,hr⟩:=h;exact⟨i,hi,hc.of_block hb,hr⟩
theorem RsAt.below(h:RsAt W cb s x)(hb:Below W.heap.size W W'):RsAt W' cb s x:=h.of_block (hb.block cb h.lt)
theorem qnev{i:Nat}(hi:i≤s.size)(hr:s.data.toList.drop i=x.r)(n:Nat):tk s i (x.e:Nat) n=bs (x.take n).1∧te s i (x.e:Nat) n=((x.take n).2.e:Nat)∧s.data.toList.drop (ti s i (x.e:Nat) n)=(x.take n).2.r:=by
 have hl:x.r.length=s.size - i:=by rw[←hr,List.length_drop,←q4ad]
 unfold Cs.take
 rcases qqbf s i (x.e:Nat) n hi with ⟨h,h1,h2,h3⟩ | ⟨h,hz,h1,h2,h3⟩ | ⟨h,hz,h1,h2,h3⟩ | ⟨m,h,hm,hz,h1,h2,h3⟩<;>rw[h1,h2,h3]
 ·have he:x.e≠0:=by intro e;rw[e] at h;cases h
  rw[if_pos he]
  exact⟨rfl,rfl,hr⟩
 ·omega
 ·rw[if_neg (by omega),if_pos (by omega)]
  exact⟨rfl,rfl,hr⟩
 ·obtain rfl:m=n:=by omega
  rw[if_neg (by omega),if_neg (by omega)]
  exact⟨by rw[q31q,hr],rfl,by rw[←hr,List.drop_drop]⟩
theorem qyb5(n:Nat)(hn8:n≤8)(hm:s.size≤9223372036854775807)(h:RsAt w cb s x) :
 Calls Tryz.prog 61 #[.pointer (some ⟨cb,0,none⟩),.int .i64 n] w fun e w'=>e = .returned (.int .u64 ((x.num n).1:Nat))∧RsAt w' cb s (x.num n).2∧w.grownBy w' (some cb):=by
 obtain⟨i,hi,hc,hr⟩:=h
 obtain⟨a1,a2,a3⟩:=qnev (x:=x) hi hr n
 have hle:(x.take n).1.length≤n:=by
  unfold Cs.take
  split
  ·exact Nat.zero_le _
  ·split
   ·exact Nat.zero_le _
   ·simp;omega
 have hN:qf3l (tk s i (x.e:Nat) n)=(x.num n).1:=by
  rw[a1]
  show num ((bs (x.take n).1).data.toList.drop ((bs (x.take n).1).size - 8))=num (x.take n).1
  rw[q5zk,show(x.take n).1.length - 8=0 by omega]
  rfl
 refine(quje (n:Int) hc hi hm).mono fun e w' ⟨h1,h2,h3⟩=>⟨by rw[h1,hN],⟨_,qqc6 s i _ _ hi,by rw[show((x.num n).2.e:Nat)=(x.take n).2.e from rfl,←a2];exact h2,a3⟩,h3⟩
theorem qw3h(f:Nat)(h:RsAt w cb s x) :
 Calls Tryz.prog 63 #[.pointer (some ⟨cb,0,none⟩),.int .i64 f] w fun e w'=>e = .returned (.tuple #[])∧RsAt w' cb s (x.fail f)∧w.grownBy w' (some cb):=by
 obtain⟨i,hi,hc,hr⟩:=h
 refine(qi5e (f:Int) hc).mono fun e w' ⟨h1,h2,h3⟩=>⟨h1,?_,h3⟩
 unfold Cs.fail
 by_cases he:x.e=0
 ·rw[if_neg (by simpa using he)]
  rw[show fe ((x.e:Nat):Int) f=(f:Int) by rw[he];rfl] at h2
  exact⟨i,hi,h2,hr⟩
 ·rw[if_pos he]
  have hb:(((x.e:Nat):Int)==0)=false:=by simp;omega
  rw[show fe ((x.e:Nat):Int) f=((x.e:Nat):Int) by unfold fe;rw[hb];rfl] at h2
  exact⟨i,hi,h2,hr⟩
theorem q5u4(hm:s.size≤9223372036854775807)(h:RsAt w cb s x) :
 Calls Tryz.prog 59 #[.pointer (some ⟨cb,0,none⟩)] w fun e w'=>e = .returned (.int .i64 (x.r.length:Nat))∧RsAt w' cb s x∧w.grownBy w' (some cb):=by
 obtain⟨i,hi,hc,hr⟩:=h
 have hl:x.r.length=s.size - i:=by rw[←hr,List.length_drop,←q4ad]
 rw[hl]
 refine(qr1r hc hi hm).mono fun e w' ⟨h1,n,h2⟩=>⟨h1,h2▸⟨i,hi,hc.draws n,hr⟩,h2▸qgju (n:=n) (World.grownBy.refl _ _)⟩
end
theorem q7jb(d:Bool)(r:List UInt8):((rdB r).2.2≠0∧q91e d r=([],0,5))∨((rdB r).2.2=0∧d=false∧qecx (rdB r).1=false∧q91e d r=([],0,6))∨((rdB r).2.2=0∧(d=true∨(d=false∧qecx (rdB r).1=true))∧q91e d r=((rdB r).1,(rdB r).2.1,0)):=by
 unfold q91e
 by_cases h:(rdB r).2.2=0
 ·rw[if_neg (by simp[h])]
  cases d<;>cases hv:qecx (rdB r).1<;>simp[h]
 ·exact .inl ⟨h,by rw[if_pos h]⟩
theorem qs5r(s:ByteArray)(at' sh:Nat)(w:World)(hs:s.size≤70000)(ha:at'≤s.size)(_hsh:sh≤7) :
 Calls Tryz.prog 157 #[.string s,.int .i64 at',.int .i64 sh] w fun e w'=>e = .returned (.tuple #[.string (bs (q91e (sh==6) (s.data.toList.drop at')).1),.int .i64 (if (q91e (sh==6) (s.data.toList.drop at')).2.2=0 then at'+(q91e (sh==6) (s.data.toList.drop at')).2.1 else 0:Nat),.int .i64 ((q91e (sh==6) (s.data.toList.drop at')).2.2:Nat)])∧w'=w:=by
 have RB:=qra5 (s.extract at' s.size) w (by rw[q4ad,qh3u,List.length_drop,←q4ad];omega)
 rw[qh3u] at RB
 have hle:=q3gm (s.data.toList.drop at')
 rw[List.length_drop,←q4ad] at hle
 have q1:(at':Int)≤(s.size:Int):=by omega
 have q2:(0:Int)≤(at':Int):=by omega
 rcases q7jb (sh==6) (s.data.toList.drop at') with ⟨h1,h2⟩ | ⟨h1,h2,h3,h4⟩ | ⟨h1,h2,h3⟩
 ·rw[h2]
  unfold ok3 at RB
  generalize rdB (s.data.toList.drop at')=q at *
  obtain⟨t,k,z⟩:=q
  have n0:(((z:Nat):Int) != 0)=true:=by rw[bne_iff_ne];simp at h1;omega
  have RB:=Lib.hid RB
  simp only[show ¬(5:Nat)=0 by decide,if_false]
  clear h1 h2 hle hs ha _hsh
  go_enter Tryz.func157,Tryz.ntmps157
  go_wp2_with fail
  refine(RB.out).mono ?_
  rintro e w1 ⟨rfl,rfl⟩
  go_wp2_with fail
  go_ret3
  exact⟨rfl,rfl⟩
 ·rw[h4]
  have n6:(((sh:Nat):Int) != 6)=true:=by rw[bne_iff_ne];simp at h2;omega
  unfold ok3 at RB
  rw[h1] at RB
  have VA:=qcip (bs (rdB (s.data.toList.drop at')).1)
  rw[qkd1,h3] at VA
  generalize rdB (s.data.toList.drop at')=q at *
  obtain⟨t,k,z⟩:=q
  have RB:=Lib.hid RB
  have VA:=Lib.hid VA
  simp only[show ¬(6:Nat)=0 by decide,if_false]
  clear h1 h2 h3 h4 hle hs ha _hsh
  go_enter Tryz.func157,Tryz.ntmps157
  go_wp2_with fail
  refine(RB.out).mono ?_
  rintro e w1 ⟨rfl,rfl⟩
  go_wp2_with fail
  refine(VA.out _).mono ?_
  rintro e w1 ⟨rfl,rfl⟩
  go_wp2_with fail
  go_ret3
  exact⟨rfl,rfl⟩
 ·rw[h3]
  unfold ok3 at RB
  rw[h1] at RB
  have VA:=qcip (bs (rdB (s.data.toList.drop at')).1)
  rw[qkd1] at VA
  generalize hq:rdB (s.data.toList.drop at')=q at *
  obtain⟨t,k,z⟩:=q
  obtain⟨y,hy⟩:∃y,at'+k=y:=⟨_,rfl⟩
  have q3:IntKind.i64.wrap ((at':Int)+(k:Int))=(y:Int):=by simp only[IntKind.wrap_i64];simp at hle;omega
  have RB:=Lib.hid RB
  simp only[if_true,hy]
  rcases h2 with h2 | ⟨h2,hv⟩
  ·have n6:(((sh:Nat):Int) != 6)=false:=by simp at h2;rw[h2];rfl
   clear h1 h2 h3 hle hs ha _hsh hq hy VA
   go_enter Tryz.func157,Tryz.ntmps157
   go_wp2_with fail
   refine(RB.out).mono ?_
   rintro e w1 ⟨rfl,rfl⟩
   go_wp2_with fail
   go_ret3
   exact⟨rfl,rfl⟩
  ·have n6:(((sh:Nat):Int) != 6)=true:=by rw[bne_iff_ne];simp at h2;omega
   rw[hv] at VA
   have VA:=Lib.hid VA
   clear h1 h2 h3 hle hs ha _hsh hq hy hv
   go_enter Tryz.func157,Tryz.ntmps157
   go_wp2_with fail
   refine(RB.out).mono ?_
   rintro e w1 ⟨rfl,rfl⟩
   go_wp2_with fail
   refine(VA.out _).mono ?_
   rintro e w1 ⟨rfl,rfl⟩
   go_wp2_with fail
   go_ret3
   exact⟨rfl,rfl⟩
end Go.Proofs.YtbklidpadffpgaaGreat
