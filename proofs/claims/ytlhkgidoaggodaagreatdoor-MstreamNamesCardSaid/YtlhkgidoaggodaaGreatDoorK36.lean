/- The contracts of control.Valid, Tail and Body. Condition: the packet's fields are what their types hold; at most 70,000 properties, within their capacity. -/
import Derived.Test.YtlhkgidoaggodaaGreatDoorK29
import Derived.Test.YtlhkgidoaggodaaGreatDoorK34
set_option maxRecDepth 100000
set_option maxHeartbeats 4000000
namespace Go.Proofs.YtlhkgidoaggodaaGreatDoor
open Lib(hid)
open Proofs.Tryz
open Go.RowKit
theorem qlag(v:Int)(p:Pk):q1ra v p=
 if (qyjk v p.kind).2≠0 then(qyjk v p.kind).2
 else if (decide (p=qfkc (qyjk v p.kind).1 p)&&(!(qyjk v p.kind).1 || mayR p.kind p.code))=false then 2
 else qpyu p.kind p.props:=by
 unfold q1ra qyjk;by_cases h1:(versC v&&q5t0 p.kind)=false
 ·rw[if_pos h1,if_pos h1];rfl
 rw[if_neg h1,if_neg h1];by_cases h2:p.kind=15/\v=4
 ·rw[if_pos h2,if_pos h2];rfl
 rw[if_neg h2,if_neg h2];simp only[ne_eq,not_true_eq_false,if_false];rw[qt8s,Bool.not_not];by_cases h3:(decide (p=qfkc (!q6gd v p.kind) p)&&(q6gd v p.kind || mayR p.kind p.code))=false
 ·rw[if_pos h3,if_pos h3]
 rw[if_neg h3,if_neg h3];unfold rightC;by_cases h5:v=5
 ·rw[if_pos h5]
 rw[if_neg h5];rw[Bool.not_eq_false,Bool.and_eq_true] at h1 h3;simp only[versC,q5t0,Bool.or_eq_true,Bool.and_eq_true,beq_iff_eq,decide_eq_true_eq] at h1;have hp:q6gd v p.kind=true:=by
  cases hp:q6gd v p.kind with
  |true=>rfl
  |false=>exact absurd (qm9l h1.2 h1.1 h2 hp) h5
 have hu:=of_decide_eq_true h3.1;rw[hp] at hu
 have:p.props=[]:=by rw[hu];rfl
 rw[this];rfl
theorem qcuz(v:Int)(p:Pk)(a:Ad)(w:World)(hp:PkAt w p a)(sp:q21o p)(ok:PkOk p)(hc:p.props.length<=a.pc):Calls prog 119 #[.int .i64 v,.agg (pkC p a)] w fun e w'=>e=.returned (.int .i64 (q1ra v p:Nat))/\Below w.heap.size w w':=by
 have S0:=hid (BxS.made w p a);have C1:=hid (qwmp p a);have TL:=hid (fun W (h:BxS w p a W)=>(qkgb v p.kind W ok.kind.1 ok.kind.2).mono fun e W' hh=>(⟨hh.1,h.call hh.2⟩:_/\BxS w p a W'));have FI:=fun W (h:BxS w p a W)=>(qqfg (qyjk v p.kind).1 p a W (hp.below h.low) sp).mono fun e W' hh=>(⟨hh.1,h.call hh.2⟩:_/\BxS w p a W')
 have VA:=hid (fun W (h:BxS w p a W)=>(qirc p.kind a.ps p.props.length a.pc p.props W ok.kind.1 ok.kind.2 (hp.below h.low).ps rfl hc (fun x hx=>(ok.pps x hx).1)).mono fun e W' hh=>(⟨hh.1,h.call hh.2⟩:_/\BxS w p a W'));have k0:∀W,BxS w p a W->W.cell? ⟨w.heap.size,0,none⟩=some (.int .i64 p.kind):=fun W h=>h.cell 0;have k24:∀W,BxS w p a W->W.cell? ⟨w.heap.size,24,none⟩=some (.slice a.ps p.props.length a.pc):=fun W h=>h.cell 24;have K0:=hid k0;have K24:=hid k24;clear k0 k24;rw[qlag];generalize qyjk v p.kind=T at *;obtain⟨t,q⟩:=T;simp only at FI TL ⊢;generalize qpyu p.kind p.props=z at *;generalize (decide (p=qfkc t p)&&(!t || mayR p.kind p.code))=f at *;have FI:=hid FI;clear hp sp ok hc;have k0:(w.alloc (.cells (pkC p a) 40)).cell? ⟨w.heap.size,0,none⟩=some (.int .i64 p.kind):=K0.out _ S0.out;by_cases hq:q=0
 ·subst hq;rw[if_neg (by simp)];cases f with
  |false=>rw[if_pos rfl];go_in;go_wp2_with fail;refine(TL.out _ S0.out).mono ?_;rintro e W ⟨rfl,hb⟩;have S1:=hid hb;clear hb S0 k0;go_wp2_with (refine wpList_load_row rfl _ _ rfl w.heap.size rfl 40 _ (0,0) _ S1.out.box underlying40 rfl (by rw[C1.out];exact q5nr) ?_);refine(FI.out _ S1.out).mono ?_;rintro e W2 ⟨rfl,hb⟩;have LO:=hid hb.low;clear hb;go_wp2;go_ret;exact⟨rfl,LO.out⟩
  |true=>rw[if_neg (by decide)];go_in;go_wp2_with fail;refine(TL.out _ S0.out).mono ?_;rintro e W ⟨rfl,hb⟩;have S1:=hid hb;clear hb S0 k0;go_wp2_with (refine wpList_load_row rfl _ _ rfl w.heap.size rfl 40 _ (0,0) _ S1.out.box underlying40 rfl (by rw[C1.out];exact q5nr) ?_);refine(FI.out _ S1.out).mono ?_;rintro e W2 ⟨rfl,hb⟩;have S2:=hid hb;have k0:W2.cell? ⟨w.heap.size,0,none⟩=some (.int .i64 p.kind):=K0.out W2 S2.out;have k24:W2.cell? ⟨w.heap.size,24,none⟩=some (.slice a.ps p.props.length a.pc):=K24.out W2 S2.out;clear hb S1;go_wp2_with fail;refine(VA.out _ S2.out).mono ?_;rintro e W3 ⟨rfl,hb⟩;have LO:=hid hb.low;clear hb;go_wp2;go_ret;exact⟨rfl,LO.out⟩
 ·rw[if_pos hq];have q1:((q:Int)==0)=false:=by simp;omega
  have q2:((q:Int) != 0)=true:=by simp;omega
  clear hq FI VA;go_in;go_wp2_with fail;refine(TL.out _ S0.out).mono ?_;rintro e W ⟨rfl,hb⟩;have LO:=hid hb.low;clear hb S0 k0;go_wp2;go_ret;exact⟨rfl,LO.out⟩
theorem qncj(kind:Int)(l:List Pr):(q5aq kind l).2=qpyu kind l:=by
 unfold q5aq;split
 ·rfl
 ·rename_i h;simp only[ne_eq,Decidable.not_not] at h;exact h.symm
def q62v(x y z:ByteArray):Prop:=x++y=z/\¬9223372036854775807<x.size+y.size
def qrjh(n:Nat):Prop:=(n:Int)<65536
theorem qqt1(kind:Int)(c:Nat)(hc:c<256)(l:List Pr)(hv:qpyu kind l=0) :
 q4py c l kind=if l=[] then(if c=0 then [] else be c 1) else be c 1++(q5aq kind l).1:=by
 have ho:be c 1=[UInt8.ofNat c]:=by simp[be]
 unfold q4py;rw[if_neg (by
  rintro(h|h|h)
  ·omega
  ·omega
  ·exact h hv),ho]
 unfold qzno;by_cases hl:l=[]
 ·by_cases hz:c=0
  ·simp[hl,hz]
  ·simp[hl,hz]
 ·simp[hl]
theorem qvrf(code kind:Int)(A:Option Addr)(n c:Nat)(l:List Pr)(w:World)(hi:-9223372036854775808<=kind)(hj:kind<=9223372036854775807)(hl:PL w A l)(hn:l.length=n)(hc:n<=c)(ok:∀p∈l,PrOk p) :
 Calls prog 120 #[.int .i64 code,.slice A n c,.int .i64 kind] w fun e w'=>e=.returned (.string (bs (q4py code l kind)))/\Below w.heap.size w w':=by
 have BY:=qs01 kind A n c l w hi hj hl hn hc ok;rw[qncj] at BY;by_cases h0:code<0
 ·have e:q4py code l kind=[]:=if_pos (.inl h0);rw[e];have g1:decide (code<0)=true:=decide_eq_true h0;clear e h0 BY hl hn hc ok hi hj;go_in;go_wp2;go_ret;exact⟨rfl,Below.refl _ _⟩
 by_cases h1:255<code
 ·have e:q4py code l kind=[]:=if_pos (.inr (.inl h1));rw[e];have g1:decide (code<0)=false:=decide_eq_false h0;have g2:decide (255<code)=true:=decide_eq_true h1;clear e h0 h1 BY hl hn hc ok hi hj;go_in;go_wp2;go_ret;exact⟨rfl,Below.refl _ _⟩
 obtain⟨k,rfl⟩:∃k:Nat,code=k:=⟨code.toNat,by omega⟩
 have g1:decide ((k:Int)<0)=false:=decide_eq_false h0;have g2:decide (255<(k:Int))=false:=decide_eq_false h1;have hk:k<256:=by omega
 by_cases hv:qpyu kind l=0
 ·rw[qqt1 kind k hk l hv];rw[hv] at BY;have PU:=(fun W=>qe3g k 1 W (by omega))
  rw[show((min (1:Int) 16).toNat)=1 from rfl] at PU;have lt:=qp2i (v:=5) (kind:=kind) (l:=l) (by unfold rightC;rw[if_pos rfl];exact hv);rw[tailC,if_pos rfl] at lt;generalize (q5aq kind l).1=T at *;have e1:bs (be k 1)++bs T=bs (be k 1++T):=qyv7 _ _;have s1:(bs (be k 1++T)).size<=9223372036854775807:=by rw[q5zk,List.length_append,q0rl];omega
  have HK:qrjh k:=show(k:Int)<65536 by omega
  have hnn:l=[]↔n=0:=by rw[<-hn];exact List.length_eq_zero_iff.symm
  have hin:(if l=[] then(if k=0 then [] else be k 1) else be k 1++T)=if n=0 then(if k=0 then [] else be k 1) else be k 1++T:=by
   by_cases h:l=[]
   ·rw[if_pos h,if_pos (hnn.1 h)]
   ·rw[if_neg h,if_neg (fun e=>h (hnn.2 e))]
  rw[hin];clear hin hnn hl hn hc ok hi hj hv h0 h1 hk lt;generalize hx1:bs (be k 1)=X1 at *;generalize hx2:bs T=X2 at *;generalize hx3:bs (be k 1++T)=X3 at *;have E1:q62v X1 X2 X3:=⟨e1,by rw[<-ByteArray.size_append,e1];omega⟩
  have BYH:=hid BY;have PUH:=hid PU;clear e1 s1 BY PU;by_cases hn0:n=0
  ·subst hn0;rw[if_pos rfl];by_cases hk0:k=0
   ·subst hk0;rw[if_pos rfl];clear hx1 hx2 hx3 E1 HK g1 g2;go_in;go_wp2_with fail;refine(BYH.out).mono ?_;rintro e W ⟨rfl,hb⟩;have LO:=hid hb;clear hb;go_wp2;go_ret;exact⟨rfl,LO.out⟩
   ·rw[if_neg hk0,hx1];have g3:((k:Int) != 0)=true:=by simp;omega
    clear hx1 hx2 hx3 E1 hk0;go_in;go_wp2_with fail;refine(BYH.out).mono ?_;rintro e W ⟨rfl,hb⟩;have LO:=hid hb;have hk2:(k:Int)<65536:=HK;clear hb;go_wp2_with fail;refine(PUH.out _).mono ?_;rintro e W2 ⟨rfl,hb⟩;have LO2:=hid (qxh2 LO.out hb);clear hb;go_wp2;go_ret;exact⟨rfl,LO2.out⟩
  ·rw[if_neg hn0,hx3];have g4:0<n:=by omega
   clear hx1 hx2 hx3 hn0;go_in;go_wp2_with fail;refine(BYH.out).mono ?_;rintro e W ⟨rfl,hb⟩;have LO:=hid hb;have hk2:(k:Int)<65536:=HK;clear hb;go_wp2_with fail;refine(PUH.out _).mono ?_;rintro e W2 ⟨rfl,hb⟩;have LO2:=hid (qxh2 LO.out hb);have e1:=E1.1;have t1:=E1.2;clear hb;go_wp2;go_ret;exact⟨rfl,LO2.out⟩
 ·have e:q4py k l kind=[]:=if_pos (.inr (.inr hv));rw[e];generalize qpyu kind l=R at *;have hr1:((R:Int)==0)=false:=by simp;omega
  have hr2:((R:Int) != 0)=true:=by simp;omega
  have BYH:=hid BY;clear e h0 h1 BY hl hn hc ok hi hj hv hk;go_in;go_wp2_with fail;refine(BYH.out).mono ?_;rintro e W ⟨rfl,hb⟩;have LO:=hid hb;clear hb;go_wp2;go_ret;exact⟨rfl,LO.out⟩
def q300(l:List UInt8):Nat:=match l with|[]=>0|b::_=>b.toNat
def qs8t(kind:Int)(l:List UInt8):List Pr×Nat:=if l.tail=[] then([],0) else((qflw kind l.tail).1,(qflw kind l.tail).2.2)
theorem qiic(kind:Int)(l:List UInt8):q6u6 kind l=((q300 l,(qs8t kind l).1),(qs8t kind l).2):=by
 unfold q6u6 qs8t q300;cases l with
 |nil=>rfl
 |cons b t=>by_cases ht:t=[]<;>simp[ht]
theorem q69d(l:List UInt8):q300 l<256:=by
 unfold q300;cases l with
 |nil=>decide
 |cons b t=>exact b.toNat_lt
theorem qzp7(kind:Int)(l:List UInt8):endK kind l=((if (decide ((q4py (q300 l) (qs8t kind l).1 kind).length<l.length)) then((Cs.mk l.tail 0).fail (qs8t kind l).2).fail 5 else(Cs.mk l.tail 0).fail (qs8t kind l).2)).e:=by
 unfold endK;rw[qiic];simp only;generalize (qs8t kind l).2=f;by_cases h:(q4py (q300 l) (qs8t kind l).1 kind).length<l.length
 ·by_cases hf:f=0
  ·simp[Cs.fail,hf,h]
  ·simp[Cs.fail,hf,h]
 ·by_cases hf:f=0
  ·simp[Cs.fail,hf,h]
  ·simp[Cs.fail,hf,h]
def qv7v(w:World)(R:Pk×Nat)(e:Ending)(W:World):Prop:=
 ∃a:Ad,e=.returned (.tuple #[.agg (pkC R.1 a),.int .i64 (R.2:Nat)])/\PL W a.ps R.1.props/\R.1.props.length<=a.pc/\(∀g i,a.ps=some ⟨g,i,none⟩->w.heap.size<=g)/\Below w.heap.size w W
theorem qtnz(kind:Int)(s:ByteArray)(w:World)(hk0:-9223372036854775808<=kind)(hk1:kind<=9223372036854775807)(hm:s.size<=140737488351232) :
 Calls prog 122 #[.int .i64 kind,.string s] w (qv7v w (pkT kind (q6u6 kind s.data.toList).1.1 (q6u6 kind s.data.toList).1.2,endK kind s.data.toList)):=by
 rw[qzp7,qiic];simp only;have hm9:s.size<=9223372036854775807:=by omega
 have hsz:s.size=s.data.toList.length:=q4ad s;obtain⟨L,hL⟩:∃L,s.data.toList=L:=⟨_,rfl⟩
 rw[hL] at hsz ⊢;have hz:=q69d L;obtain⟨c,hc⟩:∃c,q300 L=c:=⟨_,rfl⟩
 rw[hc] at hz ⊢;obtain⟨⟨l,f⟩,hlf⟩:∃q,qs8t kind L=q:=⟨_,rfl⟩
 rw[hlf];simp only;obtain⟨dd,hdd⟩:∃d,decide ((q4py c l kind).length<L.length)=d:=⟨_,rfl⟩
 rw[hdd];obtain⟨Y2,hY2⟩:∃Y,(Cs.mk L.tail 0).fail f=Y:=⟨_,rfl⟩
 rw[hY2];obtain⟨Y,hY⟩:∃Y,(if dd=true then Y2.fail 5 else Y2)=Y:=⟨_,rfl⟩
 rw[hY];have HDD:=hid hdd;have HY2:=hid hY2;have HY:=hid hY;clear hdd hY2 hY;have LF:=hid (fun(cb:Nat) (z:Cs) W (h:CsAt W cb s z)=>qjtm hm9 h);have NM:=hid (fun(cb:Nat) (z:Cs) W (h:CsAt W cb s z)=>q8yf 1 (by decide) hm9 h);have RS:=hid (fun(cb:Nat) (z:Cs) W (h:CsAt W cb s z)=>qzrp hm9 h);have FL:=hid (fun(cb:Nat) (x:Cs) (g:Nat) W (h:CsAt W cb s x)=>qazj g h);have ER:=hid (fun(cb:Nat) (x:Cs) W (h:CsAt W cb s x)=>q3gp h);have NW:=hid (fun W=>q2gu s W);have hprs:∀p∈l,PrOk p:=by
  unfold qs8t at hlf;split at hlf
  ·cases hlf;exact fun p hp=>(nomatch hp)
  ·cases hlf;exact fun p hp=>((qdz1 _ _).1 p hp).1
 have TL:=hid (fun(A:Option Addr) (n cc:Nat) W (hl:PL W A l) (hn:l.length=n) (hc:n<=cc)=>qvrf c kind A n cc l W hk0 hk1 hl hn hc hprs);obtain⟨D,hD⟩:∃D,pkC (pkT kind 0 []) adZ=D:=⟨_,rfl⟩
 have HD1:=hid (by rw[<-hD];exact qwmp _ _:D.size=25);have HD2:=hid (by rw[<-hD];exact qmz0 _ _:D.all (·.oneCell')=true);have HD:=hid hD;have HZ:=hid qbwp;have hzv:=qrai;have hne:¬pkZ=#[]:=by intro h;have:=qbwp;rw[h] at this;cases this
 have RS0:=hid (heap_alloc_new w (.cells pkZ 40));have ZW:=hid (show(w.alloc (.cells pkZ 40)).heap.size=w.heap.size+1 by simp);have L0:=hid (qybm (w:=w) (.cells pkZ 40));have HL:=hid hL;have HC:=hid hc;have HLF:=hid hlf;have HS:=hid hsz;have HM:=hid hm;have HK:=hid (And.intro hk0 hk1);have HX:=hid hz;clear hD hL hc hlf hsz hm hm9 hk0 hk1 hz hprs;go_in;go_wp2_with fail;generalize w.alloc (.cells pkZ 40)=W0 at *;refine(NW.out _).mono ?_;rintro e W1 ⟨rfl,hcur,hb1,hz1⟩;have C1:=(show CsAt W1 W0.heap.size s ⟨L,0⟩ from⟨0,Nat.zero_le _,hcur,by simpa using HL.out⟩)
 replace C1:=hid C1;have L1:=hid (qxh2 L0.out hb1);have R1:=hid ((hb1.block _ (lt_of_block RS0.out)).trans RS0.out);have S1:=hid (KcS.laid L1.out R1.out (by rw[ZW.out];omega) C1.out HD.out rfl);clear hcur hb1 hz1 C1 L1 R1 RS0 L0 NW;generalize W0.heap.size=cb at *
 go_upto_region 3 with (first
  |(refine wpList_buildTo rfl 40 _ rfl (some _) rfl D (by rw[<-HD.out];kernel_rfl) ?_)
  |(refine wpList_store_row rfl _ _ _ rfl W1.heap.size D rfl rfl 40 _ (heap_alloc_new W1 _) (by rw[HD1.out];exact q5nr) (by rw[HZ.out,HD1.out]) HD2.out ?_))
 generalize W1.heap.size=B at *;generalize (W1.alloc (.cells pkZ 40)).setRow _ D=W2 at *;clear hzv hne;dsimp only[Act.put];obtain⟨g,hg⟩:∃g,decide ((0:Int)<((L.length:Nat):Int))=g:=⟨_,rfl⟩
 have LF1:Calls prog 51 #[.pointer (some ⟨cb,0,none⟩)] W2 fun e w'=>e=.returned (.int .i64 ((L.length:Nat):Int))/\KcS w cb s B ⟨L,0⟩ (pkT kind 0 []) adZ w':=
  (LF.out cb ⟨L,0⟩ W2 S1.out.cs).mono fun e w' ⟨he,n,hn⟩=>⟨he,hn▸S1.out.draws n⟩
 have HG:=hid hg;obtain⟨m,hmm⟩:∃m:Int,((L.length:Nat):Int)=m:=⟨_,rfl⟩
 rw[hmm] at LF1 hg;replace LF1:=hid LF1;clear hmm S1;go_wp2_with fail;refine(LF1.out).mono ?_;rintro e W3 ⟨rfl,hS⟩;have S2:=hid hS;clear hS LF1
 go_upto_if 17 with fail
 clear hg;go_cut [] (fun wx=>KcS w cb s B ⟨L.tail,0⟩ (pkT kind c []) adZ wx)
 case first=>
  have h1:=HG.out;have h2:=HC.out;cases L with
  |nil=>
   have h1:false=g:=by rw[<-h1];rfl
   subst h1;have h2:0=c:=h2;subst h2;go_wp2_with fail
   go_meet
   exact S2.out
  |cons b t=>
   have h1:true=g:=by rw[<-h1];exact(decide_eq_true (by simp only[List.length_cons];omega)).symm
   subst h1;have h2:b.toNat=c:=h2;have N1:=NM.out cb ⟨b::t,0⟩;rw[Cs.num_one,h2] at N1;replace N1:=hid N1;have hc2:(c:Int)<65536:=by have:=HX.out;omega
   have hw:IntKind.i64.wrap (c:Int)=(c:Int):=by rw[IntKind.wrap_i64];omega
   clear h2;go_wp2_with fail;refine(N1.out _ S2.out.cs).mono ?_;rintro e W4 ⟨rfl,hcs,hgr⟩;have S3:=hid (S2.out.call hcs hgr);have n21:W4.cell? ⟨B,21,none⟩=some (.int .i64 0):=S3.out.cell 21;have f21:=S3.out.fr 21;have S4:=hid (S3.out.set 21 (.int .i64 (c:Int)) (P':=pkT kind c []) (a':=adZ) rfl S3.out.ps S3.out.pc S3.out.pf);clear hcs hgr S2;go_wp2_with fail
   go_meet
   exact S4.out
 case rest=>
  have S3:=hid hcut;clear hcut S2 HG
  go_upto_region 5 with fail
  obtain⟨T,hT⟩:∃T,L.tail=T:=⟨_,rfl⟩
  have HLF2:(if T=[] then([],0) else((qflw kind T).1,(qflw kind T).2.2))=(l,f):=by rw[<-hT];exact HLF.out
  have HY2:=HY2.out;rw[hT] at S3 HY2;replace HY2:=hid HY2;replace HLF2:=hid HLF2;have hTl:T.length<=s.size:=by rw[<-hT,List.length_tail,HS.out];omega
  have HTL:=hid hTl;obtain⟨g,hg⟩:∃g,decide ((0:Int)<((T.length:Nat):Int))=g:=⟨_,rfl⟩
  have LF1:Calls prog 51 #[.pointer (some ⟨cb,0,none⟩)] wc fun e w'=>e=.returned (.int .i64 ((T.length:Nat):Int))/\KcS w cb s B ⟨T,0⟩ (pkT kind c []) adZ w':=
   (LF.out cb ⟨T,0⟩ wc S3.out.cs).mono fun e w' ⟨he,n,hn⟩=>⟨he,hn▸S3.out.draws n⟩
  have HG:=hid hg;clear m;obtain⟨m,hmm⟩:∃m:Int,((T.length:Nat):Int)=m:=⟨_,rfl⟩
  rw[hmm] at LF1 hg;replace LF1:=hid LF1;clear hmm S3 HLF hT hTl;go_wp2_with fail;refine(LF1.out).mono ?_;rintro e W4 ⟨rfl,hS⟩;have S4:=hid hS;clear hS LF1
  go_upto_if 24 with fail
  clear hg;go_cut [] (fun wx=>∃a,KcS w cb s B Y2 (pkT kind c l) a wx)
  case first=>
   have h1:=HG.out;have h3:=HLF2.out;cases g with
   |false=>
    have hn:T=[]:=by
     have:=of_decide_eq_false h1
     exact List.length_eq_zero_iff.1 (by omega)
    subst hn;have h3:([],0)=(l,f):=h3;cases h3;have hy:=HY2.out;subst hy;go_wp2_with fail
    go_meet
    exact⟨adZ,S4.out⟩
   |true=>
    have hn:¬T=[]:=by rintro rfl;exact absurd (of_decide_eq_true h1) (by decide)
    rw[if_neg hn] at h3;obtain⟨l',k,f',hq⟩:∃l k f,qflw kind T=(l,k,f):=⟨_,_,_,rfl⟩
    rw[hq] at h3;rw[show l'=l from congrArg Prod.fst h3,show f'=f from congrArg Prod.snd h3] at hq;clear h3;have R1:Calls prog 39 #[.pointer (some ⟨cb,0,none⟩)] W4 fun e w'=>e=.returned (.string (bs T))/\KcS w cb s B ⟨T,0⟩ (pkT kind c []) adZ w':=
     (RS.out cb ⟨T,0⟩ W4 S4.out.cs).mono fun e w' ⟨he,n,hn⟩=>⟨he,hn▸S4.out.draws n⟩
    have RD:=fun W=>q188 kind (bs T) l k f HK.out.1 HK.out.2 (by rw[q5zk];have:=HTL.out;have:=HM.out;omega) hq W;replace R1:=hid R1;replace RD:=hid RD;generalize bs T=X at *;clear h1 hn hq S4 HG;go_wp2_with fail;refine(R1.out).mono ?_;rintro e W5 ⟨rfl,hS⟩;have S5:=hid hS;clear hS R1;go_wp2_with fail;refine(RD.out _).mono ?_;rintro e W6 ⟨hb,A,cc,rfl,hc,hP,-,-,hA⟩;have S6:=hid (S5.out.below hb);have HP:=hid hP;have HCC:=hid hc;have HAA:=hid (fun g i (e:A=some ⟨g,i,none⟩)=>Nat.lt_of_lt_of_le (lt_of_block S5.out.pk) (hA g i e));clear hb hc hP hA S5 RD;go_wp2_with fail;refine(FL.out cb _ f _ S6.out.cs).mono ?_;rintro e W7 ⟨rfl,hcs,hgr⟩;have S7:=hid (S6.out.call hcs hgr);have P7:=hid (HP.out.grown hgr (fun g i e=>by have:=HAA.out g i e;have:=S6.out.hB;omega));have n24:W7.cell? ⟨B,24,none⟩=some (.slice none 0 0):=S7.out.cell 24;have f24:=S7.out.fr 24;have S8:=hid (S7.out.set 24 (.slice A l.length cc) (P':=pkT kind c l) (a':={adZ with ps:=A,pc:=cc}) rfl P7.out HCC.out HAA.out);clear hcs hgr S6;go_wp2_with fail
    go_meet
    rw[<-HY2.out];exact⟨_,S8.out⟩
  case rest=>
   obtain⟨a,hS⟩:=hcut;have S5:=hid hS;clear hS S4 HG HLF2 HY2 NM RS LF
   go_upto_region 9 with fail
   have TLa:Calls prog 120 #[.int .i64 c,.slice a.ps l.length a.pc,.int .i64 kind] wc fun e w'=>e=.returned (.string (bs (q4py c l kind)))/\KcS w cb s B Y2 (pkT kind c l) a w':=
    (TL.out a.ps l.length a.pc wc S5.out.ps rfl S5.out.pc).mono fun e w' ⟨he,hb⟩=>⟨he,S5.out.below hb⟩
   have k21:wc.cell? ⟨B,21,none⟩=some (.int .i64 c):=S5.out.cell 21;have k24:wc.cell? ⟨B,24,none⟩=some (.slice a.ps l.length a.pc):=S5.out.cell 24;have hxs:=q5zk (q4py c l kind);have hdd:=HDD.out;rw[<-hxs,<-HS.out] at hdd;generalize bs (q4py c l kind)=X at *;have hd2:decide ((X.size:Int)<(s.size:Int))=dd:=by rw[<-hdd];congr 1;simp
   have TLH:=hid TLa;clear TLa S5 hxs HDD TL;go_wp2_with fail;refine(TLH.out).mono ?_;rintro e W5 ⟨rfl,hS⟩;have S6:=hid hS;clear hS TLH k21 k24
   go_upto_if 47 with fail
   clear hdd hd2;go_cut [] (fun wx=>KcS w cb s B Y (pkT kind c l) a wx)
   case first=>
    cases dd with
    |true=>
     have FLa:=hid (FL.out cb Y2 5);go_wp2_with fail;refine(FLa.out _ S6.out.cs).mono ?_;rintro e W6 ⟨rfl,hcs,hgr⟩;have S7:=hid (S6.out.call hcs hgr);clear hcs hgr;go_wp2_with fail
     go_meet
     rw[<-HY.out];exact S7.out
    |false=>
     go_wp2_with fail
     go_meet
     rw[<-HY.out];exact S6.out
   case rest=>
    have S7:=hid hcut;clear hcut S6 FL HY;have hx:=qwmp (pkT kind c l) a;have hy:=qmz0 (pkT kind c l) a;have ER2:=hid (fun V (h:KcS w cb s B Y (pkT kind c l) a V)=>ER.out cb Y V h.cs);have RT:=hid (fun V (h:KcS w cb s B Y (pkT kind c l) a V)=>(show qv7v w (pkT kind c l,Y.e) (.returned (.tuple #[.agg (pkC (pkT kind c l) a),.int .i64 (Y.e:Nat)])) (V.setRow w.heap.size (pkC (pkT kind c l) a)) from
     ⟨a,rfl,h.ps.kept (by simp[World.setRow]) (fun g i e _=>setRow_other V w.heap.size g _ (by have:=h.pf g i e;have:=h.hB;have:=h.lt;omega)),h.pc,fun g i e=>by have:=h.pf g i e;have:=h.hB;have:=h.lt;omega,
      q8xz h.low (Nat.le_refl _) _⟩))
    have RS5:=hid (fun V (h:KcS w cb s B Y (pkT kind c l) a V)=>setRow_heap V w.heap.size _ (pkC (pkT kind c l) a) _ _ h.rs);obtain⟨C,hC⟩:∃C,pkC (pkT kind c l) a=C:=⟨_,rfl⟩
    rw[hC] at hx hy RT RS5;have HC1:=hid hx;have HC2:=hid hy;have HCC:=hid hC;clear hx hy hC
    go_upto_region 11 with fail
    refine qeqd (S:=KcS w cb s B Y (pkT kind c l) a) (b:=w.heap.size) (B:=B) (cb:=cb) (f:=(Y.e:Nat)) (C:=C) (S7.out.draws 1) HC1.out HC2.out (by have:=S7.out.hB;have:=S7.out.lt;omega) (fun V h=>by rw[<-HCC.out];exact h.pk) (fun V h=>⟨_,h.rs,qbwp⟩) (fun V h=>ER2.out V h) (fun V h=>ER.out cb Y _ (h.cs.of_block (setRow_other V w.heap.size cb _ (by have:=h.lt;omega)))) ?_;intro V h;have G:=hid (RS5.out V h);have RTV:=hid (RT.out V h);clear h RT RS5;go_wp2_with fail;exact q8iy (cs:=C) rfl rfl rfl rfl underlying40 rfl (by rw[HC1.out];exact q5nr) G.out RTV.out
structure KtS(w:World)(B:Nat)(P:Pk)(a:Ad)(W:World):Prop where
 low:Below w.heap.size w W
 rs:W.heap[w.heap.size]?=some (.cells pkZ 40 (0,0))
 hB:w.heap.size<B
 pk:W.heap[B]?=some (.cells (pkC P a) 40 (0,0))
 at_:PkAt W P a
 pf:∀g i,a.ps=some ⟨g,i,none⟩->w.heap.size<g
theorem KtS.call{w W W':World}{B:Nat}{P:Pk}{a:Ad}(h:KtS w B P a W)(hb:Below W.heap.size W W'):KtS w B P a W':=
 ⟨qxh2 h.low hb,(hb.block _ (lt_of_block h.rs)).trans h.rs,h.hB,(hb.block _ (lt_of_block h.pk)).trans h.pk,h.at_.below hb,h.pf⟩
theorem qh4e{kind:Int}(hk:-9223372036854775808<=kind/\kind<=9223372036854775807)(l:List UInt8):FitA (pkT kind (q6u6 kind l).1.1 (q6u6 kind l).1.2):=by
 refine q0yw hk ?_;rw[qiic];unfold qs8t;split
 ·exact⟨fun p hp=>(nomatch hp),Nat.zero_le _⟩
 ·exact qdz1 _ _
theorem quz6(s:ByteArray):(s.toList==[])=decide (s.data.toList=[]):=by rw[qrze];cases s.data.toList<;>simp
theorem q3lt(v kind:Int)(s:ByteArray)(w:World)(hk0:-9223372036854775808<=kind)(hk1:kind<=9223372036854775807)(hm:s.size<=140737488351232) :
 Calls prog 80 #[.int .i64 v,.int .i64 kind,.string s] w (q2da w (qf4x v kind s.data.toList)):=by
 have HZ:=hid qbwp;have hzv:=qrai;have hne:¬pkZ=#[]:=by intro h;have:=qbwp;rw[h] at this;cases this
 have PZ:Hid (pkZ.all (·.oneCell')=true):=hid (qmz0 Pk.zero adZ);have RZ:=hid (fun(e:Nat) W (hb:Below w.heap.size w W)=>(show q2da w (Pk.zero,e) (.returned (.tuple #[.agg pkZ,.int .i64 (e:Nat)])) (W.setRow w.heap.size pkZ) from⟨adZ,rfl,qa3p _,Nat.zero_le _,qkys,q8xz hb (Nat.le_refl _) _,fun _=>rfl,q16x w⟩));rw[q54j];have TA:=hid (fun W=>qkgb v kind W hk0 hk1);have R0:=heap_alloc_new w (.cells pkZ 40);have L0:=qybm (w:=w) (.cells pkZ 40);have S0:=hid (And.intro L0 R0);have ST:=hid (fun W W' (h:Below w.heap.size w W/\W.heap[w.heap.size]?=some (.cells pkZ 40 (0,0))) (hb:Below W.heap.size W W')=>(⟨qxh2 h.1 hb,(hb.block _ (lt_of_block h.2)).trans h.2⟩:Below w.heap.size w W'/\W'.heap[w.heap.size]?=some (.cells pkZ 40 (0,0))));clear R0 L0;obtain⟨⟨tl,q0⟩,hT⟩:∃t,qyjk v kind=t:=⟨_,rfl⟩
 rw[hT] at TA ⊢;simp only at TA ⊢;clear hT;by_cases hq:q0=0
 ·subst hq;rw[if_neg (by simp)];by_cases hb0:tl=false/\s.data.toList≠[]
  ·rw[if_pos hb0];obtain⟨rfl,hl⟩:=hb0;have h1:(s.toList==[])=false:=by rw[quz6];exact decide_eq_false hl
   have h2:(s.toList != [])=true:=by rw[bne,h1];rfl
   clear hl hm hk0 hk1;go_in;go_wp2_with fail;refine(TA.out _).mono ?_;rintro e W ⟨rfl,hb⟩;have S1:=hid (ST.out _ _ S0.out hb);clear hb S0;go_wp2_with (first
    |(refine wpList_buildTo rfl 40 _ rfl (some _) rfl pkZ (by kernel_rfl) ?_)
    |(refine wpList_store_row rfl _ _ _ rfl w.heap.size pkZ rfl rfl 40 _ S1.out.2 (by rw[HZ.out];exact q5nr) rfl PZ.out ?_))
   refine q8iy (cs:=pkZ) rfl rfl rfl rfl underlying40 rfl (by rw[HZ.out];exact q5nr) (setRow_heap _ _ _ _ _ _ S1.out.2) ?_;exact RZ.out 5 _ S1.out.1
  rw[if_neg hb0];have hg:tl=true\/tl=false/\(s.toList==[])=true/\(s.toList != [])=false:=by
   cases tl with
   |true=>exact .inl rfl
   |false=>
    have hl:s.data.toList=[]:=by
     by_cases h:s.data.toList=[]
     ·exact h
     ·exact absurd ⟨rfl,h⟩ hb0
    have h1:(s.toList==[])=true:=by rw[quz6];exact decide_eq_true hl
    exact .inr ⟨rfl,h1,by rw[bne,h1];rfl⟩
  have RD:=hid (fun W=>qtnz kind s W hk0 hk1 hm);have FI:=hid (qh4e ⟨hk0,hk1⟩ s.data.toList);have VA:=hid (fun a W (h:PkAt W (pkT kind (q6u6 kind s.data.toList).1.1 (q6u6 kind s.data.toList).1.2) a) (hc:(pkT kind (q6u6 kind s.data.toList).1.1 (q6u6 kind s.data.toList).1.2).props.length<=a.pc)=>qcuz v _ a W h FI.out.2 FI.out.1 hc);have NL:=hid (show(pkT kind (q6u6 kind s.data.toList).1.1 (q6u6 kind s.data.toList).1.2).wProps=[]/\(pkT kind (q6u6 kind s.data.toList).1.1 (q6u6 kind s.data.toList).1.2).codes=[]/\(pkT kind (q6u6 kind s.data.toList).1.1 (q6u6 kind s.data.toList).1.2).filters=[] from⟨rfl,rfl,rfl⟩);have PT:=hid (fun W a (h:PL W a.ps (pkT kind (q6u6 kind s.data.toList).1.1 (q6u6 kind s.data.toList).1.2).props)=>(⟨fun e=>absurd rfl e,fun e=>absurd rfl e,fun e=>absurd rfl e,h⟩:PkAt W (pkT kind (q6u6 kind s.data.toList).1.1 (q6u6 kind s.data.toList).1.2) a));generalize pkT kind (q6u6 kind s.data.toList).1.1 (q6u6 kind s.data.toList).1.2=P at *;generalize endK kind s.data.toList=f at *;generalize q1ra v P=q at *;obtain⟨R,hR⟩:∃R,(if (if f≠0 then f else q)≠0 then(Pk.zero,(if f≠0 then f else q)) else(P,0))=R:=⟨_,rfl⟩
  rw[hR];have HR:=hid hR;clear hb0 hR hm hk0 hk1;rcases hg with rfl|⟨rfl,h1,h2⟩
  all_goals
   go_in;go_wp2_with fail;refine(TA.out _).mono ?_;rintro e W ⟨rfl,hb⟩;have S1:=hid (ST.out _ _ S0.out hb);clear hb S0;go_wp2_with fail;refine(RD.out _).mono ?_;rintro e W2 ⟨a,rfl,p1,p2,p3,hb⟩;have S2:=hid (ST.out _ _ S1.out hb);have hbx:Below W2.heap.size W2 ((W2.alloc (.cells pkZ 40)).setRow W2.heap.size (pkC P a)):=q8xz (qybm (w:=W2) (.cells pkZ 40)) (Nat.le_refl _) (pkC P a);have S3:KtS w W2.heap.size P a ((W2.alloc (.cells pkZ 40)).setRow W2.heap.size (pkC P a)):=
    ⟨qxh2 S2.out.1 hbx,(hbx.block _ (lt_of_block S2.out.2)).trans S2.out.2,lt_of_block S2.out.2,setRow_heap _ _ _ _ _ _ (heap_alloc_new W2 _),(PT.out _ a p1).below hbx,fun g i e=>by have:=p3 g i e;have:=lt_of_block S1.out.2;omega⟩
   have S3:=hid S3;have CP:=hid p2;have hD1:=qwmp P a;have hD2:=qmz0 P a;obtain⟨D,hD⟩:∃D,pkC P a=D:=⟨_,rfl⟩
   rw[hD] at hD1 hD2 S3 ⊢;have HD:=hid hD;have HD1:=hid hD1;have HD2:=hid hD2;have PKD:=hid (fun V (h:KtS w W2.heap.size P a V)=>(by rw[<-hD];exact h.pk:V.heap[W2.heap.size]?=some (.cells D 40 (0,0))));have VAa:=VA.out a;have VAa:=fun V (h:KtS w W2.heap.size P a V)=>(VAa V h.at_ CP.out).mono fun e W' hh=>(⟨hh.1,h.call hh.2⟩:_/\KtS w W2.heap.size P a W')
   rw[hD] at VAa;have VAa:=hid VAa;have FINT:=hid (fun V (h:KtS w W2.heap.size P a V)=>(show q2da w (P,0) (.returned (.tuple #[.agg D,.int .i64 ((0:Nat):Int)])) (V.setRow w.heap.size D) from
    ⟨a,by rw[hD],PT.out _ a (h.at_.ps.kept (by simp[World.setRow]) (fun g i e _=>setRow_other V w.heap.size g _ (by have:=h.pf g i e;omega))),CP.out,FI.out,q8xz h.low (Nat.le_refl _) _,fun h=>absurd rfl h,qq13 NL.out.1 NL.out.2.1 NL.out.2.2 fun g i e=>by have:=h.pf g i e;omega⟩))
   clear p1 p2 p3 hb S2 S1 hbx hD1 hD2 hD VA PT RD;by_cases hf0:f=0
   ·subst hf0;by_cases hq:q=0
    ·subst hq;have hr:R=(P,0):=by rw[<-HR.out];simp
     subst hr;go_wp2_with (first
      |(refine wpList_store_row rfl _ _ _ rfl W2.heap.size D rfl rfl 40 _ (heap_alloc_new W2 _) (by rw[HD1.out];exact q5nr) (by rw[HZ.out,HD1.out]) HD2.out ?_)
      |(refine wpList_load_row rfl _ _ rfl W2.heap.size rfl 40 D (0,0) _ (PKD.out _ S3.out) underlying40 rfl (by rw[HD1.out];exact q5nr) ?_))
     refine(VAa.out _ S3.out).mono ?_;rintro e W4 ⟨rfl,hS⟩;have S4:=hid hS;have RS4:=hid hS.rs;clear hS;go_wp2_with (first
      |(refine wpList_store_row rfl _ _ _ rfl w.heap.size D rfl rfl 40 _ RS4.out (by rw[HD1.out];exact q5nr) (by rw[HZ.out,HD1.out]) HD2.out ?_)
      |(refine wpList_load_row rfl _ _ rfl W2.heap.size rfl 40 D (0,0) _ (PKD.out _ S4.out) underlying40 rfl (by rw[HD1.out];exact q5nr) ?_))
     exact q8iy (cs:=D) rfl rfl rfl rfl underlying40 rfl (by rw[HD1.out];exact q5nr) (setRow_heap _ _ _ _ _ _ RS4.out) (FINT.out _ S4.out)
    ·have hr:R=(Pk.zero,q):=by rw[<-HR.out];simp[hq]
     subst hr;have q1:((q:Int)==0)=false:=by simp;omega
     have q2:((q:Int) != 0)=true:=by simp;omega
     clear hq;go_wp2_with (first
      |(refine wpList_store_row rfl _ _ _ rfl W2.heap.size D rfl rfl 40 _ (heap_alloc_new W2 _) (by rw[HD1.out];exact q5nr) (by rw[HZ.out,HD1.out]) HD2.out ?_)
      |(refine wpList_load_row rfl _ _ rfl W2.heap.size rfl 40 D (0,0) _ (PKD.out _ S3.out) underlying40 rfl (by rw[HD1.out];exact q5nr) ?_))
     refine(VAa.out _ S3.out).mono ?_;rintro e W4 ⟨rfl,hS⟩;have RS4:=hid hS.rs;have RT:=hid (RZ.out q W4 hS.low);clear hS;go_wp2_with (first
      |(refine wpList_buildTo rfl 40 _ rfl (some _) rfl pkZ (by kernel_rfl) ?_)
      |(refine wpList_store_row rfl _ _ _ rfl w.heap.size pkZ rfl rfl 40 _ RS4.out (by rw[HZ.out];exact q5nr) rfl PZ.out ?_))
     exact q8iy (cs:=pkZ) rfl rfl rfl rfl underlying40 rfl (by rw[HZ.out];exact q5nr) (setRow_heap _ _ _ _ _ _ RS4.out) RT.out
   ·have hr:R=(Pk.zero,f):=by rw[<-HR.out];simp[hf0]
    subst hr;have q1:((f:Int)==0)=false:=by simp;omega
    have q2:((f:Int) != 0)=true:=by simp;omega
    have RS4:=hid S3.out.rs;have RT:=hid (RZ.out f _ S3.out.low);clear hf0;go_wp2_with (first
     |(refine wpList_store_row rfl _ _ _ rfl W2.heap.size D rfl rfl 40 _ (heap_alloc_new W2 _) (by rw[HD1.out];exact q5nr) (by rw[HZ.out,HD1.out]) HD2.out ?_)
     |(refine wpList_buildTo rfl 40 _ rfl (some _) rfl pkZ (by kernel_rfl) ?_)
     |(refine wpList_store_row rfl _ _ _ rfl w.heap.size pkZ rfl rfl 40 _ RS4.out (by rw[HZ.out];exact q5nr) rfl PZ.out ?_))
    exact q8iy (cs:=pkZ) rfl rfl rfl rfl underlying40 rfl (by rw[HZ.out];exact q5nr) (setRow_heap _ _ _ _ _ _ RS4.out) RT.out
 ·rw[if_pos hq];have q1:((q0:Int)==0)=false:=by simp;omega
  have q2:((q0:Int) != 0)=true:=by simp;omega
  clear hq hm hk0 hk1;go_in;go_wp2_with fail;refine(TA.out _).mono ?_;rintro e W ⟨rfl,hb⟩;have S1:=hid (ST.out _ _ S0.out hb);clear hb S0;go_wp2_with (first
   |(refine wpList_buildTo rfl 40 _ rfl (some _) rfl pkZ (by kernel_rfl) ?_)
   |(refine wpList_store_row rfl _ _ _ rfl w.heap.size pkZ rfl rfl 40 _ S1.out.2 (by rw[HZ.out];exact q5nr) rfl PZ.out ?_))
  refine q8iy (cs:=pkZ) rfl rfl rfl rfl underlying40 rfl (by rw[HZ.out];exact q5nr) (setRow_heap _ _ _ _ _ _ S1.out.2) ?_;exact RZ.out q0 _ S1.out.1
def rdS(cb:Nat)(v kind:Int):Value := .agg #[.pointer (some ⟨cb,0,none⟩),.int .i64 v,.int .i64 kind]
section
variable{w W W':World}{cb:Nat}{s:ByteArray}{x:Cs}{v kind:Int}
theorem qq7p(w:World)(cb:Nat)(v kind:Int):(w.alloc (.cells #[.pointer (some ⟨cb,0,none⟩),.int .i64 v,.int .i64 kind] 153)).heap[w.heap.size]?=some (.cells #[.pointer (some ⟨cb,0,none⟩),.int .i64 v,.int .i64 kind] 153 (0,0)):=heap_alloc_new w _
theorem qnsg(hm:s.size<=9223372036854775807)(h:CsAt w cb s x) :
 Calls prog 201 #[rdS cb v kind] w fun e w'=>e=.returned (.string (bs x.ahead))/\Below w.heap.size w w':=by
 have B0:=hid (qybm (w:=w) (.cells #[.pointer (some ⟨cb,0,none⟩),.int .i64 v,.int .i64 kind] 153));have h0:=h.alloc (.cells #[.pointer (some ⟨cb,0,none⟩),.int .i64 v,.int .i64 kind] 153);have LF:=hid (fun n=>qjtm hm (h0.draws n));have PK:=hid (fun n=>qitj hm (h0.draws n));have DR:∀a b:Nat,((w.alloc (.cells #[.pointer (some ⟨cb,0,none⟩),.int .i64 v,.int .i64 kind] 153)).drewN a).drewN b=(w.alloc (.cells #[.pointer (some ⟨cb,0,none⟩),.int .i64 v,.int .i64 kind] 153)).drewN (a+b):=fun a b=>by simp
 have DR:=hid DR;unfold rdS;clear h h0;go_in;go_wp2_with fail;go_quiet (first
  |(go_at_call 51;exact(LF.out _).mono fun _ _ h=>⟨h.1,qrso h.2⟩)
  |(go_at_call 231;exact(PK.out _).mono fun _ _ h=>⟨h.1,qrso h.2⟩))
 go_wp2;go_ret;exact⟨rfl,qnpu B0.out _⟩
theorem qo6b(k f:Nat)(hk:k<=x.r.length)(hm:s.size<=9223372036854775807)(h:CsAt w cb s x) :
 Calls prog 202 #[rdS cb v kind,.int .i64 (k:Nat),.int .i64 (f:Nat)] w fun e w'=>e=.returned (.tuple #[])/\CsAt w' cb s (if x.e=0 then⟨x.r.drop k,f⟩ else x)/\w.grownBy w' (some cb):=by
 have G0:=hid (World.grownBy_alloc w (.cells #[.pointer (some ⟨cb,0,none⟩),.int .i64 v,.int .i64 kind] 153) (some cb));have h0:=h.alloc (.cells #[.pointer (some ⟨cb,0,none⟩),.int .i64 v,.int .i64 kind] 153);have TK:=hid (qgtr k hm h0);have e1:((x.take k).2.fail f)=if x.e=0 then⟨x.r.drop k,f⟩ else x:=by
  unfold Cs.take Cs.fail;by_cases he:x.e=0
  ·simp[he,show ¬x.r.length<k by omega]
  ·simp[he]
 rw[<-e1];have BX:=hid (qq7p w cb v kind);have hne:w.heap.size≠cb:=Nat.ne_of_gt h.lt;unfold rdS;clear h h0 e1 hk;go_in;go_wp2_with fail;refine(TK.out).mono ?_;rintro e w2 ⟨rfl,hc,hg⟩;have hb2:=(hg.block w.heap.size (by simp) (fun e=>hne (Option.some.inj e))).trans BX.out;have c0:w2.cell? ⟨w.heap.size,0,none⟩=some (.pointer (some ⟨cb,0,none⟩)):=cell_of_row _ _ 0 _ _ _ hb2;have FL:=hid (qazj f hc);have HG:=hid (qo6d G0.out hg);clear hc hg hb2;go_wp2_with fail;refine(FL.out).mono ?_;rintro e w3 ⟨rfl,hc,hg⟩;have HC:=hid hc;have HG2:=hid (qo6d HG.out hg);clear hc hg c0;go_wp2_with fail
 go_end0
 exact⟨rfl,HC.out,HG2.out⟩
theorem qzvp(hk0:-9223372036854775808<=kind)(hk1:kind<=9223372036854775807)(hm:s.size<=9223372036854775807)(h:CsAt w cb s x) :
 Calls prog 155 #[rdS cb v kind] w fun e w'=>(∃A c,e=.returned (.slice A (x.props v kind).1.length c)/\(x.props v kind).1.length<=c/\PL w' A (x.props v kind).1/\∀g i,A=some ⟨g,i,none⟩->w.heap.size<g)/\CsAt w' cb s (x.props v kind).2/\w.grownBy w' (some cb):=by
 have G0:=hid (World.grownBy_alloc w (.cells #[.pointer (some ⟨cb,0,none⟩),.int .i64 v,.int .i64 kind] 153) (some cb));have h0:=h.alloc (.cells #[.pointer (some ⟨cb,0,none⟩),.int .i64 v,.int .i64 kind] 153);have H0:=hid h0;have BX:=hid (qq7p w cb v kind);have c1:(w.alloc (.cells #[.pointer (some ⟨cb,0,none⟩),.int .i64 v,.int .i64 kind] 153)).cell? ⟨w.heap.size,1,none⟩=some (.int .i64 v):=cell_of_row _ _ 1 _ _ _ BX.out;by_cases h5:v=5
 ·subst h5;have AH:=fun W (h:CsAt W cb s x)=>qnsg (v:=5) (kind:=kind) hm h;have hle:x.ahead.length<=x.r.length:=by unfold Cs.ahead;split;exact Nat.le_refl _;exact Nat.zero_le _
  obtain⟨L,k,F,hq⟩:∃L k F,qflw kind x.ahead=(L,k,F):=⟨_,_,_,rfl⟩
  have RD:=fun W=>q188 kind (bs x.ahead) L k F hk0 hk1 (by rw[q5zk];have:=h.len;omega) hq W;have hk2:k<=x.r.length:=by
   by_cases hF:F=0
   ·subst hF
    have:=(qugf hq).2.1
    omega
   ·have:=qjfk (kind:=kind) (s:=x.ahead) (by rw[hq];exact hF)
    rw[hq] at this
    have:k=0:=congrArg (fun z=>z.2.1) this
    omega
  have e1:x.props 5 kind=(L,if x.e=0 then⟨x.r.drop k,F⟩ else x):=by
   unfold Cs.props;by_cases he:x.e=0
   ·unfold Cs.ahead at hq;rw[if_pos he] at hq;simp[he,hq]
   ·unfold Cs.ahead at hq;rw[if_neg he,qjdx] at hq;simp[he,<-(Prod.mk.inj hq).1]
  rw[e1];have PS:=fun W (h:CsAt W cb s x)=>qo6b (v:=5) (kind:=kind) k F hk2 hm h;generalize (if x.e=0 then(⟨x.r.drop k,F⟩:Cs) else x)=y at *;generalize bs x.ahead=t at *;have CB:=hid h.lt;unfold rdS at *;replace AH:=hid AH;replace RD:=hid RD;replace PS:=hid PS;clear h h0 hle hk2 e1 hq;go_in
  go_upto_region 3 with fail
  clear c1;refine qje9 (S:=fun z V=>CsAt V cb s x/\w.grownBy V (some cb)/\V.heap[w.heap.size]?=some (.cells #[.pointer (some ⟨cb,0,none⟩),.int .i64 5,.int .i64 kind] 153 (0,0))/\∀A c,z=some (A,c)->PL V A L/\L.length<=c/\∀g i,A=some ⟨g,i,none⟩->w.heap.size<g) (n:=L.length) (k:=(k:Int)) (f:=(F:Int)) (t:=t)
   ⟨H0.out.draws 1,qo6d G0.out (q9cp (qnpu (Below.refl _ _) 1) (some cb)),BX.out,fun A c e=>by cases e⟩ (fun z V hS=>hS.2.2.1) (fun z V hS=>cell_of_row _ _ 2 _ _ _ hS.2.2.1)
   (fun z V hS=>(AH.out V hS.1).mono fun e W' ⟨he,hb⟩=>⟨he,hS.1.below hb,qo6d hS.2.1 (q9cp hb (some cb)),(hb.block _ (lt_of_block hS.2.2.1)).trans hS.2.2.1,fun A c e=>by obtain⟨p1,p2,p3⟩:=hS.2.2.2 A c e;exact⟨p1.below hb,p2,p3⟩⟩)
   (fun z V hS=>(RD.out V).mono fun e W' ⟨hb,A,c,he,hc,hP,_,_,hA⟩=>⟨A,c,he,hS.1.below hb,qo6d hS.2.1 (q9cp hb (some cb)),(hb.block _ (lt_of_block hS.2.2.1)).trans hS.2.2.1,fun A' c' e=>by cases e;exact⟨hP,hc,fun g i e=>Nat.lt_of_lt_of_le (lt_of_block hS.2.2.1) (hA g i e)⟩⟩) ?_
  intro z V hz hS;obtain⟨⟨A,c⟩,rfl⟩:=Option.isSome_iff_exists.1 hz;obtain⟨hC,hG,hX,hR⟩:=hS;obtain⟨p1,p2,p3⟩:=hR A c rfl;have H3:=hid hC;have G3:=hid hG;have P3:=hid p1;have Q3:=hid (And.intro p2 p3);have c0:V.cell? ⟨w.heap.size,0,none⟩=some (.pointer (some ⟨cb,0,none⟩)):=cell_of_row _ _ 0 _ _ _ hX;have c1:V.cell? ⟨w.heap.size,1,none⟩=some (.int .i64 5):=cell_of_row _ _ 1 _ _ _ hX;have c2:V.cell? ⟨w.heap.size,2,none⟩=some (.int .i64 kind):=cell_of_row _ _ 2 _ _ _ hX;clear hC hG hX hR p1 p2 p3 hz;go_wp2_with fail;refine(PS.out _ H3.out).mono ?_;rintro e w4 ⟨rfl,hc,hg⟩;have H4:=hid hc;have G4:=hid (qo6d G3.out hg);have P4:=hid (P3.out.grown hg (fun g i e=>by have:=Q3.out.2 g i e;have:=CB.out;omega));clear hc hg c0 c1 c2;go_wp2;go_ret;exact⟨⟨A,c,rfl,Q3.out.1,P4.out,Q3.out.2⟩,H4.out,G4.out⟩
 ·have e1:x.props v kind=([],x):=by unfold Cs.props;rw[if_pos (.inr h5)]
  rw[e1];have h5':(v==5)=false:=beq_eq_false_iff_ne.2 h5;have h5n:(v != 5)=true:=by rw[show(v != 5)=!(v==5) from rfl,h5'];rfl
  unfold rdS;clear h5 h5' h h0 e1;go_in;go_wp2;go_ret;exact⟨⟨none,0,rfl,Nat.zero_le _,fun e=>absurd rfl e,fun g i e=>by cases e⟩,H0.out,G0.out⟩
end
theorem qzi2:∀n:Nat,n<256->(bits .andNot .i64 (n:Int) 3 != 0)=decide (3<n)/\(bits .andNot .i64 (n:Int) 63 != 0)=decide (63<n)/\bits .and .i64 (n:Int) 3=((n%4:Nat):Int)/\(bits .and .i64 (n:Int) 4 != 0)=(n / 4%2==1)/\(bits .and .i64 (n:Int) 8 != 0)=(n / 8%2==1)/\
 bits .and .i64 (n:Int) 48=((16*(n / 16%4):Nat):Int):=by decide+kernel
theorem q4vu(x:Cs):(x.num 1).1<256:=by
 unfold Cs.num
 have:=qn9h (x.take 1).1
 have hl:(x.take 1).1.length<=1:=by
  unfold Cs.take;split
  ·simp
  ·split
   ·simp
   ·simp;omega
 have:256^(x.take 1).1.length<=256^1:=Nat.pow_le_pow_right (by decide) hl
 omega
def fiZ:Array Value:=#[.string ⟨#[]⟩,.int .i64 0,.bool false,.bool false,.int .i64 0]
structure RoS(w:World)(cb:Nat)(v kind:Int)(s:ByteArray)(y:Cs)(W:World):Prop where
 lt:cb<w.heap.size
 g:w.grownBy W (some cb)
 bx:W.heap[w.heap.size]?=some (.cells #[.pointer (some ⟨cb,0,none⟩),.int .i64 v,.int .i64 kind] 153 (0,0))
 rs:W.heap[w.heap.size+1]?=some (.cells fiZ 66 (0,0))
 cs:CsAt W cb s y
section
variable{w W W':World}{cb:Nat}{s:ByteArray}{x y z:Cs}{v kind:Int}
theorem RoS.made(h:CsAt w cb s x):RoS w cb v kind s x ((w.alloc (.cells #[.pointer (some ⟨cb,0,none⟩),.int .i64 v,.int .i64 kind] 153)).alloc (.cells fiZ 66)):=
 ⟨h.lt,qo6d (World.grownBy_alloc _ _ _) (World.grownBy_alloc _ _ _),heap_alloc2_old _ _ _,heap_alloc2_new _ _ _,(h.alloc _).alloc _⟩
theorem RoS.call(h:RoS w cb v kind s y W)(hc:CsAt W' cb s z)(hg:W.grownBy W' (some cb)):RoS w cb v kind s z W':=
 ⟨h.lt,qo6d h.g hg,(hg.block _ (lt_of_block h.bx) (fun e=>by have:=Option.some.inj e;have:=h.lt;omega)).trans h.bx,(hg.block _ (lt_of_block h.rs) (fun e=>by have:=Option.some.inj e;have:=h.lt;omega)).trans h.rs,hc⟩
theorem RoS.below(h:RoS w cb v kind s y W)(hb:Below W.heap.size W W'):RoS w cb v kind s y W':=
 ⟨h.lt,qo6d h.g (q9cp hb _),(hb.block _ (lt_of_block h.bx)).trans h.bx,(hb.block _ (lt_of_block h.rs)).trans h.rs,h.cs.below hb⟩
theorem RoS.cell(h:RoS w cb v kind s y W)(j:Nat):W.cell? ⟨w.heap.size,j,none⟩=(#[Value.pointer (some ⟨cb,0,none⟩),.int .i64 v,.int .i64 kind]:Array Value)[j]? := cell_of_row _ _ j _ _ _ h.bx
theorem qla3(hm:s.size<=9223372036854775807)(h:CsAt w cb s x) :
 Calls prog 232 #[rdS cb v kind] w fun e w'=>e=.returned (.agg (fiC (q7vq [] (x.num 1).1)))/\CsAt w' cb s (if 63<(x.num 1).1\/(v=4/\3<(x.num 1).1) then(x.num 1).2.fail 7 else(x.num 1).2)/\w.grownBy w' (some cb):=by
 have G0:=hid (World.grownBy_alloc w (.cells #[.pointer (some ⟨cb,0,none⟩),.int .i64 v,.int .i64 kind] 153) (some cb));have h0:=h.alloc (.cells #[.pointer (some ⟨cb,0,none⟩),.int .i64 v,.int .i64 kind] 153);have NM:=fun W (h:CsAt W cb s x)=>q8yf 1 (by decide) hm h;have hlt:=q4vu x;generalize x.num 1=z at *;obtain⟨n,y⟩:=z;simp only at NM hlt ⊢;have BI:=hid (qqd6 v);have FL:=hid (fun W (h:CsAt W cb s y)=>qazj 7 h);obtain⟨b3,b63,b2,b4,b8,b48⟩:=qzi2 n hlt;have hbad:(63<n\/(v=4/\3<n))↔(bits .andNot .i64 (n:Int) (qyb2 v:Int) != 0)=true:=by
  unfold qyb2;by_cases h4:v=4
  ·rw[if_pos h4];show _↔(bits .andNot .i64 (n:Int) 3 != 0)=true;rw[b3,decide_eq_true_eq];omega
  ·rw[if_neg h4];show _↔(bits .andNot .i64 (n:Int) 63 != 0)=true;rw[b63,decide_eq_true_eq];omega
 have R0:=hid (RoS.made (v:=v) (kind:=kind) h);unfold fiZ at R0;replace NM:=hid NM;have hn:(n:Int)<65536:=by omega
 have K0:∀y W,RoS w cb v kind s y W->W.cell? ⟨w.heap.size,0,none⟩=some (.pointer (some ⟨cb,0,none⟩)):=fun y W h=>h.cell 0;have K1:∀y W,RoS w cb v kind s y W->W.cell? ⟨w.heap.size,1,none⟩=some (.int .i64 v):=fun y W h=>h.cell 1;have HB:=hid (show ∃(q t r:Int) (a b:Bool),bits .and .i64 (n:Int) 3=q/\bits .and .i64 (n:Int) 48=t/\wrap64 q=q/\wrap64 (t.tdiv 16)=r/\(bits .and .i64 (n:Int) 4 != 0)=a/\(bits .and .i64 (n:Int) 8 != 0)=b/\fiC (q7vq [] n)=#[.string ⟨#[]⟩,.int .i64 q,.bool a,.bool b,.int .i64 r] from by
  refine⟨_,_,((n / 16%4:Nat):Int),_,_,b2,b48,?_,?_,b4,b8,rfl⟩
  ·have:((n%4:Nat):Int)<4:=by omega
   generalize n%4=m at *;unfold wrap64;omega
  ·have:((n / 16%4:Nat):Int)<4:=by omega
   generalize n / 16%4=m at *;have e:((16*m:Nat):Int).tdiv 16=(m:Int):=by rw[Int.tdiv_eq_ediv_of_nonneg (by omega)];omega
   rw[e];unfold wrap64;omega)
 replace K0:=hid K0;replace K1:=hid K1;unfold rdS;clear h h0 b3 b63 G0 b2 b4 b8 b48;by_cases hd:63<n\/(v=4/\3<n)
 ·rw[if_pos hd];have g1:=hbad.1 hd;clear hbad hd;have g2:(bits .andNot .i64 (n:Int) (qyb2 v:Int)==0)=false:=by rw[bne,Bool.not_eq_true'] at g1;exact g1
  generalize qyb2 v=M at *;go_in;go_wp2_with fail;refine(NM.out _ R0.out.cs).mono ?_;rintro e w2 ⟨rfl,hc,hg⟩;have R2:=hid (R0.out.call hc hg);have c0:=K0.out _ _ R2.out;have c1:=K1.out _ _ R2.out;clear hc hg R0;go_wp2_with fail;refine(BI.out _).mono ?_;rintro e w3 ⟨rfl,rfl⟩;go_wp2_with fail;refine(FL.out _ R2.out.cs).mono ?_;rintro e w4 ⟨rfl,hc,hg⟩;have R4:=hid (R2.out.call hc hg);obtain⟨q,t,r,a,b,b2,b48,e1,e2,b4,b8,hD⟩:=HB.out;have HD:=hid hD;have H5:=hid (show #[Value.string ⟨#[]⟩,.int .i64 q,.bool a,.bool b,.int .i64 r].size=5 from rfl);have HO:=hid (show #[Value.string ⟨#[]⟩,.int .i64 q,.bool a,.bool b,.int .i64 r].all (·.oneCell')=true from by simp[Value.oneCell']);have HR:=hid R4.out.rs;clear hc hg c0 c1 g1 g2 hn HB hD;go_wp2_with (refine wpList_store_row rfl _ _ _ rfl (w.heap.size+1) #[.string ⟨#[]⟩,.int .i64 q,.bool a,.bool b,.int .i64 r] rfl rfl 66 _ HR.out (by rw[H5.out];exact qhg6) (by rw[H5.out];rfl) HO.out ?_);refine q7wi rfl rfl rfl underlying66 rfl (by rw[H5.out];exact qhg6) (setRow_heap _ _ _ _ _ _ HR.out) ⟨by rw[HD.out],?_,?_⟩
  ·exact R4.out.cs.of_block (setRow_other _ _ _ _ (by have:=R4.out.lt;omega))
  ·exact qacl R4.out.g (by omega) _
 ·rw[if_neg hd];have g1:(bits .andNot .i64 (n:Int) (qyb2 v:Int) != 0)=false:=by rw[Bool.eq_false_iff];exact fun e=>hd (hbad.2 e)
  clear hbad hd;have g2:(bits .andNot .i64 (n:Int) (qyb2 v:Int)==0)=true:=by rw[bne,Bool.not_eq_false'] at g1;exact g1
  generalize qyb2 v=M at *;go_in;go_wp2_with fail;refine(NM.out _ R0.out.cs).mono ?_;rintro e w2 ⟨rfl,hc,hg⟩;have R2:=hid (R0.out.call hc hg);have c0:=K0.out _ _ R2.out;have c1:=K1.out _ _ R2.out;clear hc hg R0;go_wp2_with fail;refine(BI.out _).mono ?_;rintro e w3 ⟨rfl,rfl⟩;obtain⟨q,t,r,a,b,b2,b48,e1,e2,b4,b8,hD⟩:=HB.out;have HD:=hid hD;have H5:=hid (show #[Value.string ⟨#[]⟩,.int .i64 q,.bool a,.bool b,.int .i64 r].size=5 from rfl);have HO:=hid (show #[Value.string ⟨#[]⟩,.int .i64 q,.bool a,.bool b,.int .i64 r].all (·.oneCell')=true from by simp[Value.oneCell']);have HR:=hid R2.out.rs;clear c0 c1 hn HB hD;go_wp2_with (refine wpList_store_row rfl _ _ _ rfl (w.heap.size+1) #[.string ⟨#[]⟩,.int .i64 q,.bool a,.bool b,.int .i64 r] rfl rfl 66 _ HR.out (by rw[H5.out];exact qhg6) (by rw[H5.out];rfl) HO.out ?_);refine q7wi rfl rfl rfl underlying66 rfl (by rw[H5.out];exact qhg6) (setRow_heap _ _ _ _ _ _ HR.out) ⟨by rw[HD.out],?_,?_⟩
  ·exact R2.out.cs.of_block (setRow_other _ _ _ _ (by have:=R2.out.lt;omega))
  ·exact qacl R2.out.g (by omega) _
end
end Go.Proofs.YtlhkgidoaggodaaGreatDoor
