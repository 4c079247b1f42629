/- The contract of polyglotref07.Props. Condition: at most 2,000 bytes. -/
import Derived.Deep.DeepCutAuto
import Derived.Test.YtbklidpadffpgaaGreatK46
import Derived.Test.YtbklidpadffpgaaGreatK10
import Derived.Test.YtbklidpadffpgaaGreatK51
import Derived.Test.YtbklidpadffpgaaGreatK50
import Derived.Test.YtbklidpadffpgaaGreatK47
import Derived.Test.YtbklidpadffpgaaGreatK11
import Derived.Test.YtbklidpadffpgaaGreatK17
import Derived.Test.YtbklidpadffpgaaGreatK19
import Derived.Test.YtbklidpadffpgaaGreatK04
import Derived.Test.YtbklidpadffpgaaGreatK23
import Derived.Test.YtbklidpadffpgaaGreatK08
import Derived.Test.YtbklidpadffpgaaGreatK20
import Derived.Test.YtbklidpadffpgaaGreatK21
import Derived.Test.YtbklidpadffpgaaGreatK40
set_option maxHeartbeats 4000000
set_option maxRecDepth 100000
namespace Go.Proofs.YtbklidpadffpgaaGreat
open Go.RowKit
theorem qtrv{W:World}{base n c:Nat}{A:Option Addr}{l:List Value}{t:TypeId}(h:W.ownsRow base t 4 (.slice A n c) n l):c≤9223372036854775807:=by
 rcases h.2 with ⟨e,_⟩ | ⟨g,cap,cur,e,_,_,_,hm,_⟩
 ·cases e;exact Nat.zero_le _
 ·cases e;unfold maxLen at hm;omega
section
variable{w W W':World}{cb:Nat}{s:ByteArray}{x:Cs}
theorem qlo7(v kind:Int)(hv:v=4∨v=5)(hk0:-9223372036854775808≤kind)(hk1:kind≤9223372036854775807)(hm:s.size≤2000)(h:RsAt w cb s x) :
 Calls Tryz.prog 62 #[.int .i64 v,.int .i64 kind,.pointer (some ⟨cb,0,none⟩)] w fun e w'=>(∃A c,e = .returned (.slice A (x.props v kind).1.length c)∧(x.props v kind).1.length≤c∧c≤9223372036854775807∧PL w' A (x.props v kind).1∧∀g i,A=some ⟨g,i,none⟩→w.heap.size≤g)∧RsAt w' cb s (x.props v kind).2∧w.grownBy w' (some cb):=by
 have hcb:=h.lt
 have HH:=Lib.hid h
 obtain⟨i,hi,hc,hr⟩:=h
 have hl:x.r.length=s.size - i:=by rw[←hr,List.length_drop,←q4ad]
 have h2:=hc.c2
 rcases hv with rfl | rfl
 ·have e1:x.props 4 kind=([],x):=by unfold Cs.props;rw[if_pos (.inr (by decide))]
  rw[e1]
  clear hc hr hi hl e1 h2
  go_enter Tryz.func62,Tryz.ntmps62
  go_wp2_with fail
  go_ret
  exact⟨⟨none,0,rfl,Nat.zero_le _,Nat.zero_le _,(fun e=>absurd rfl e),(fun g i e=>by cases e)⟩,HH.out,World.grownBy.refl _ _⟩
 ·by_cases he:x.e=0
  ·rw[he] at hc h2
   have RS:=qv27 hc hi
   rw[qo1z s i hi,hr] at RS
   have RD:=fun W=>qwqg kind (bs x.r) W (by rw[q5zk];omega) hk0 hk1
   rw[qkd1] at RD
   have e1:x.props 5 kind=((qflw kind x.r).1,⟨x.r.drop (qflw kind x.r).2.1,(qflw kind x.r).2.2⟩):=by unfold Cs.props;rw[if_neg (by rw[he];decide)]
   rw[e1]
   have hz:(qflw kind x.r).2.1≤x.r.length:=by
    by_cases hF:(qflw kind x.r).2.2=0
    ·exact(qugf (show qflw kind x.r=((qflw kind x.r).1,(qflw kind x.r).2.1,0) by rw[←hF])).2.1
    ·rw[qjfk hF];exact Nat.zero_le _
   unfold PrdP at RD
   obtain⟨z,hzz⟩:∃z,(qflw kind x.r).2.1=z:=⟨_,rfl⟩
   obtain⟨f,hf⟩:∃f,(qflw kind x.r).2.2=f:=⟨_,rfl⟩
   rw[hzz] at hz RD ⊢
   rw[hf] at RD ⊢
   generalize (qflw kind x.r).1=L at *
   have hw:IntKind.i64.wrap ((i:Int)+(z:Int))=((i+z:Nat):Int):=by rw[IntKind.wrap_i64];omega
   have h1:=hc.c1
   have f1:=hc.fr 1
   have f2:=hc.fr 2
   have HC:=Lib.hid hc
   have RS:=Lib.hid RS
   have RD:=Lib.hid RD
   have HR:=Lib.hid hr
   have HZ:=Lib.hid hz
   have HL:=Lib.hid hl
   have HI:=Lib.hid hi
   have CB:=Lib.hid hcb
   clear hc hr hz hl hi he hzz hf e1 hcb
   go_enter Tryz.func62,Tryz.ntmps62
   go_wp2_with fail
   refine(RS.out).mono ?_
   rintro e W ⟨rfl,n,rfl⟩
   go_wp2_with fail
   refine(RD.out _).mono ?_
   rintro e W ⟨hb,_,_,vv,rfl,ho⟩
   obtain⟨A,c,rfl,hc,hP,hg⟩:=PL.owned ho rfl
   have hcm:=qtrv ho
   have HC2:=Lib.hid ((HC.out.draws n).of_block (hb.block cb CB.out))
   have h1:W.cell? ⟨cb,1,none⟩=some (.int .i64 i):=HC2.out.c1
   have h2:W.cell? ⟨cb,2,none⟩=some (.int .i64 0):=HC2.out.c2
   have f1:=HC2.out.fr 1
   have f2:=HC2.out.fr 2
   have GB:=Lib.hid (qgju (n:=n) (q9cp hb (some cb)))
   have HP:=Lib.hid hP
   have HG:=Lib.hid hg
   have HX:=Lib.hid (And.intro hc hcm)
   clear hb ho hc hP hg hcm
   go_wp2_with fail
   go_ret
   have GK:W.grownBy ((W.setCell ⟨cb,2,none⟩ (.int .i64 f)).setCell ⟨cb,1,none⟩ (.int .i64 ((i+z:Nat):Int))) (some cb):=qo6d (q99v _ _ _ _) (q99v _ _ _ _)
   refine⟨⟨A,c,rfl,HX.out.1,HX.out.2,HP.out.grown GK (fun g j e=>by have:=HG.out g j e;have:=CB.out;intro e2;subst e2;exact absurd (HG.out g j e) (by show ¬w.heap.size≤g;omega)),HG.out⟩,⟨i+z,by have:=HI.out;have:=HZ.out;have:=HL.out;omega,(HC2.out.fail f).to (i+z),by rw[←HR.out,List.drop_drop]⟩,qo6d GB.out GK⟩
  ·have e1:x.props 5 kind=([],x):=by unfold Cs.props;rw[if_pos (.inl he)]
   rw[e1]
   have he2:(((x.e:Nat):Int)==0)=false:=by simp;omega
   have he3:(((x.e:Nat):Int) != 0)=true:=by simp;omega
   clear hc hr hi hl e1 he
   go_enter Tryz.func62,Tryz.ntmps62
   go_wp2_with fail
   go_ret
   exact⟨⟨none,0,rfl,Nat.zero_le _,Nat.zero_le _,(fun e=>absurd rfl e),(fun g i e=>by cases e)⟩,HH.out,World.grownBy.refl _ _⟩
end
theorem q7ml(kind:Int)(s:List UInt8):(qflw kind s).1.length≤1010∧(∀p∈(qflw kind s).1,p.text.length≤200000)∧(q5aq kind (qflw kind s).1).1.length≤300000010:=by
 obtain⟨h1,h2⟩:=qdz1 kind s
 refine⟨by omega,fun p hp=>by have:=(h1 p hp).2.1;omega,?_⟩
 by_cases hF:(qflw kind s).2.2=0
 ·have hv:=(qugf (show qflw kind s=((qflw kind s).1,(qflw kind s).2.1,0) by rw[←hF])).1
  have lt:=qp2i (v:=5) (kind:=kind) (l:=(qflw kind s).1) (by unfold qfk9;rw[if_pos rfl];exact hv)
  rw[qasq,if_pos rfl] at lt
  omega
 ·rw[qjfk hF]
  show(q5aq kind []).1.length≤_
  have:(q5aq kind []).1=[0]:=by
   unfold q5aq
   rw[if_neg (by show ¬(qpyu kind []≠0);simp[qpyu,q09m,qwyx,q636,hasP])]
   rfl
  rw[this];decide
section
variable{w W W':World}{cb:Nat}{s:ByteArray}{x:Cs}
theorem q9nw(h:RsAt w cb s x) :
 Calls Tryz.prog 60 #[.pointer (some ⟨cb,0,none⟩)] w fun e w'=>e = .returned (.string (bs x.r))∧RsAt w' cb s x∧w.grownBy w' (some cb):=by
 obtain⟨i,hi,hc,hr⟩:=h
 rw[←hr,←qo1z s i hi]
 refine(qv27 hc hi).mono fun e w' ⟨h1,n,h2⟩=>⟨h1,h2▸⟨i,hi,hc.draws n,hr⟩,h2▸qgju (n:=n) (World.grownBy.refl _ _)⟩
structure RrA(w:World)(cb:Nat)(s:ByteArray)(y:Cs)(W:World):Prop where
 cs:RsAt W cb s y
 g:w.grownBy W (some cb)
theorem RrA.call{y z:Cs}(h:RrA w cb s y W)(hc:RsAt W' cb s z)(hg:W.grownBy W' (some cb)):RrA w cb s z W':=⟨hc,qo6d h.g hg⟩
theorem RrA.e2{y:Cs}(h:RrA w cb s y W):W.cell? ⟨cb,2,none⟩=some (.int .i64 ((y.e:Nat):Int)):=h.cs.err
structure RlA(w:World)(A:Option Addr)(c:Nat)(L:List Pr)(W:World):Prop where
 pl:PL W A L
 cap:L.length≤c
 capm:c≤9223372036854775807
 far:∀g i,A=some ⟨g,i,none⟩→w.heap.size≤g
theorem RlA.call{A:Option Addr}{c:Nat}{L:List Pr}(h:RlA w A c L W)(hcb:cb < w.heap.size)(hg:W.grownBy W' (some cb)):RlA w A c L W':=⟨h.pl.grown hg (fun g i e=>by have:=h.far g i e;omega),h.cap,h.capm,h.far⟩
theorem qtma(v kind:Int)(hv:v=4∨v=5)(hk0:-9223372036854775808≤kind)(hk1:kind≤9223372036854775807)(hm:s.size≤2000)(h:RsAt w cb s x) :
 Calls Tryz.prog 36 #[.int .i64 v,.int .i64 kind,.pointer (some ⟨cb,0,none⟩)] w fun e w'=>(∃A c,e = .returned (.tuple #[.int .i64 ((x.rest v kind).1.1:Nat),.slice A (x.rest v kind).1.2.length c])∧RlA w A c (x.rest v kind).1.2 w')∧RrA w cb s (x.rest v kind).2 w':=by
 have hm9:s.size≤9223372036854775807:=by omega
 have CB:=Lib.hid h.lt
 have S0:Hid (RrA w cb s x w):=Lib.hid ⟨h,World.grownBy.refl _ _⟩
 have NL:∀W,RlA w none 0 [] W:=fun W=>⟨PL.nil,Nat.le_refl _,by decide,fun g i e=>by cases e⟩
 have LF:=fun(z:Cs) W (h:RrA w cb s z W)=>(q5u4 hm9 h.cs).mono fun e W' hh=>(⟨hh.1,h.call hh.2.1 hh.2.2⟩:_∧RrA w cb s z W')
 unfold Cs.rest
 by_cases hc:v≠5∨x.e≠0∨x.r=[]
 ·rw[if_pos hc]
  have NL:=Lib.hid NL
  rcases hv with rfl | rfl
  ·clear hc h LF hm hm9
   go_enter Tryz.func36,Tryz.ntmps36
   go_wp2_with fail
   go_ret2
   exact⟨⟨none,0,rfl,NL.out _⟩,S0.out⟩
  ·by_cases he:x.e=0
   ·have hr:x.r=[]:=by
     rcases hc with h | h | h
     ·exact absurd rfl h
     ·exact absurd he h
     ·exact h
    have c2:=S0.out.e2
    have L1:=LF x w S0.out
    rw[hr] at L1
    rw[he] at c2
    replace L1:=Lib.hid L1
    clear hc h LF hm hm9 he hr
    go_enter Tryz.func36,Tryz.ntmps36
    go_wp2_with fail
    refine(L1.out).mono ?_
    rintro e W1 ⟨rfl,hS⟩
    have S1:=Lib.hid hS
    clear hS c2
    go_wp2_with fail
    go_ret2
    exact⟨⟨none,0,rfl,NL.out _⟩,S1.out⟩
   ·have c2:=S0.out.e2
    obtain⟨f,hf⟩:∃f,x.e=f:=⟨_,rfl⟩
    rw[hf] at c2 he
    have q1:((f:Int)==0)=false:=by simp;omega
    have q2:((f:Int) != 0)=true:=by simp;omega
    clear hc h LF hm hm9 he hf
    go_enter Tryz.func36,Tryz.ntmps36
    go_wp2_with fail
    go_ret2
    exact⟨⟨none,0,rfl,NL.out _⟩,S0.out⟩
 ·rw[if_neg hc]
  have h5:v=5:=by
   by_cases e:v=5
   ·exact e
   ·exact absurd (.inl e) hc
  have he:x.e=0:=by
   by_cases e:x.e=0
   ·exact e
   ·exact absurd (.inr (.inl e)) hc
  have hr:x.r≠[]:=fun e=>hc (.inr (.inr e))
  subst h5
  clear hc hv
  have c2:=S0.out.e2
  rw[he] at c2
  have L1:=LF x w S0.out
  have q1:(((x.r.length:Nat):Int)==0)=false:=by
   have:=List.length_pos_iff.2 hr
   simp;omega
  generalize x.r.length=n1 at *
  have RS:=fun W (h:RrA w cb s x W)=>(q9nw h.cs).mono fun e W' hh=>(⟨hh.1,h.call hh.2.1 hh.2.2⟩:_∧RrA w cb s x W')
  have NM:=fun W (h:RrA w cb s x W)=>(qyb5 1 (by decide) hm9 h.cs).mono fun e W' hh=>(⟨hh.1,h.call hh.2.1 hh.2.2⟩:_∧RrA w cb s (x.num 1).2 W')
  obtain⟨z,hz⟩:∃z,x.num 1=z:=⟨_,rfl⟩
  obtain⟨b,t,h1,h2⟩:∃b t,x.r=b::t∧x.num 1=(b.toNat,⟨t,0⟩):=by
   obtain⟨r,e⟩:=x
   simp only at he hr
   subst he
   cases r with
   | nil=>exact absurd rfl hr
   | cons b t=>exact⟨b,t,rfl,Cs.num_one⟩
  have hb:=b.toNat_lt
  rw[h2] at NM ⊢
  simp only at NM ⊢
  obtain⟨bn,hbn⟩:∃n,b.toNat=n:=⟨_,rfl⟩
  rw[hbn] at NM hb ⊢
  have hb0:(bn:Int) < 256:=by omega
  obtain⟨X,hX⟩:∃X,x.r=X:=⟨_,rfl⟩
  rw[hX] at RS ⊢
  obtain⟨p,hp⟩:∃p,(if t=[] then([],(⟨t,0⟩:Cs)) else(Cs.mk t 0).props 5 kind)=p:=⟨_,rfl⟩
  rw[hp]
  have PP:t≠[]→∀W,RrA w cb s ⟨t,0⟩ W→Calls Tryz.prog 62 #[.int .i64 5,.int .i64 kind,.pointer (some ⟨cb,0,none⟩)] W fun e W'=>∃A c,e = .returned (.slice A p.1.length c)∧RlA w A c p.1 W'∧RrA w cb s p.2 W':=fun ht W h=>by
   rw[if_neg ht] at hp
   rw[←hp]
   exact(qlo7 5 kind (.inr rfl) hk0 hk1 hm h.cs).mono fun e W' ⟨⟨A,c,h1,h2,h3,h4,h5⟩,h6,h7⟩=>⟨A,c,h1,⟨h4,h2,h3,fun g i e=>by have:=h5 g i e;have:=h.g.size;omega⟩,h.call h6 h7⟩
  have PN:t=[]→p=([],⟨[],0⟩):=fun ht=>by rw[←hp,if_pos ht,ht]
  have PF:p.1.length≤1010∧(∀q∈p.1,q.text.length≤200000)∧(q5aq kind p.1).1.length≤300000010:=by
   rw[←hp]
   have hq:=q7ml kind t
   have hn:=q7ml kind []
   rw[qjdx] at hn
   split
   ·exact hn
   ·unfold Cs.props
    rw[if_neg (by simp)]
    exact hq
  obtain⟨L,y⟩:=p
  simp only at PP PN PF ⊢
  have SH:=fun A c W (h:RlA w A c L W) (hS:RrA w cb s y W)=>(qo8d 5 kind bn A L.length c L W (.inr rfl) (by omega) ⟨h.pl,rfl,h.cap,h.capm,PF.1,PF.2.1⟩ PF.2.2).mono fun e W' hh=>(⟨hh.1,h.call CB.out (q9cp hh.2 _),hS.call (hS.cs.below hh.2) (q9cp hh.2 _)⟩:_∧RlA w A c L W'∧RrA w cb s y W')
  have LT:=LF ⟨t,0⟩
  have LY:=fun A c W (h:RlA w A c L W∧RrA w cb s y W)=>(q5u4 hm9 h.2.cs).mono fun e W' hh=>(⟨hh.1,h.1.call CB.out hh.2.2,h.2.call hh.2.1 hh.2.2⟩:_∧RlA w A c L W'∧RrA w cb s y W')
  obtain⟨dd,hdd⟩:∃d,decide (y.e=0∧y.r=[]∧qzno 5 kind (bn:Int) L≠X)=d:=⟨_,rfl⟩
  obtain⟨Y,hY⟩:∃Y,(if y.e=0∧y.r=[]∧qzno 5 kind (bn:Int) L≠X then y.fail 5 else y)=Y:=⟨_,rfl⟩
  rw[hY]
  have hYd:(if dd=true then y.fail 5 else y)=Y:=by
   rw[←hY,←hdd]
   simp only[decide_eq_true_eq]
  have FL:=fun A c W (h:RlA w A c L W∧RrA w cb s y W)=>(qw3h 5 h.2.cs).mono fun e W' hh=>(⟨hh.1,h.1.call CB.out hh.2.2,h.2.call hh.2.1 hh.2.2⟩:_∧RlA w A c L W'∧RrA w cb s (y.fail 5) W')
  obtain⟨T,hT⟩:∃T,qzno 5 kind (bn:Int) L=T:=⟨_,rfl⟩
  rw[hT] at SH hdd
  have hTX:((bs T).toList==(bs X).toList)=decide (T=X):=by
   rw[q0c6,q0c6]
   by_cases e:T=X<;>simp[e]
  have hTX2:((bs T).toList != (bs X).toList)=decide (T≠X):=by
   rw[show((bs T).toList != (bs X).toList)=!((bs T).toList==(bs X).toList) from rfl,hTX,decide_not]
  have HDD:=Lib.hid hdd
  have HYD:=Lib.hid hYd
  have HTX:=Lib.hid (And.intro hTX hTX2)
  have NLL:=Lib.hid NL
  replace L1:=Lib.hid L1
  replace RS:=Lib.hid RS
  replace NM:=Lib.hid NM
  replace SH:=Lib.hid SH
  replace FL:=Lib.hid FL
  replace PP:=Lib.hid PP
  replace PN:=Lib.hid PN
  replace LT:=Lib.hid LT
  replace LY:=Lib.hid LY
  clear h LF hm hm9 he hr hz h1 h2 hb hbn hX hp PF hdd hY hYd hT hTX hTX2 NL hk0 hk1
  go_enter Tryz.func36,Tryz.ntmps36
  go_wp2_with fail
  refine(L1.out).mono ?_
  rintro e W1 ⟨rfl,hS⟩
  have S1:=Lib.hid hS
  clear hS L1 c2 S0
  go_wp2_with fail
  refine(RS.out _ S1.out).mono ?_
  rintro e W2 ⟨rfl,hS⟩
  have S2:=Lib.hid hS
  clear hS RS S1
  go_wp2_with fail
  refine(NM.out _ S2.out).mono ?_
  rintro e W3 ⟨rfl,hS⟩
  have S3:=Lib.hid hS
  clear hS NM S2
  go_upto_region 6 with fail
  go_cut [32] (fun s32 wx=>s32 = .bool (!t.isEmpty)∧RrA w cb s ⟨t,0⟩ wx)
  case first=>
   have LX:=LT.out _ S3.out
   cases t with
   | nil=>
    replace LX:=Lib.hid LX
    clear LT PP PN
    go_wp2_with fail
    refine(LX.out).mono ?_
    rintro e W4 ⟨rfl,hS⟩
    have S4:=Lib.hid hS
    clear hS
    go_wp2_with fail
    go_meet
    exact⟨rfl,S4.out⟩
   | cons t1 t2=>
    have hn:decide ((0:Int) < (((t1::t2).length:Nat):Int))=true:=decide_eq_true (by simp)
    obtain⟨n,hnn⟩:∃n:Int,(((t1::t2).length:Nat):Int)=n:=⟨_,rfl⟩
    rw[hnn] at LX hn
    replace LX:=Lib.hid LX
    clear LT PP PN hnn
    go_wp2_with fail
    refine(LX.out).mono ?_
    rintro e W4 ⟨rfl,hS⟩
    have S4:=Lib.hid hS
    clear hS
    go_wp2_with fail
    go_meet
    exact⟨rfl,S4.out⟩
  case rest=>
   obtain⟨rfl,hS⟩:=hcut
   have S4:=Lib.hid hS
   clear hS S3 LT
   go_upto_if 32 with fail
   go_cut [10] (fun s10 wx=>∃A c,s10 = .slice A L.length c∧RlA w A c L wx∧RrA w cb s y wx)
   case first=>
    cases t with
    | nil=>
     have e:=PN.out rfl
     simp only[Prod.mk.injEq] at e
     obtain⟨rfl,rfl⟩:=e
     clear PP PN
     go_wp2_with fail
     go_meet
     exact⟨none,0,rfl,NLL.out _,S4.out⟩
    | cons t1 t2=>
     have PX:=Lib.hid (PP.out (by simp))
     clear PP PN
     go_wp2_with fail
     refine(PX.out _ S4.out).mono ?_
     rintro e W5 ⟨A,c,rfl,hl,hS⟩
     have S5:=Lib.hid (And.intro hl hS)
     clear hl hS
     go_wp2_with fail
     go_meet
     exact⟨A,c,rfl,S5.out.1,S5.out.2⟩
   case rest=>
    obtain⟨A,c,rfl,hl,hS⟩:=hcut
    have S5:=Lib.hid hS
    have R5:=Lib.hid hl
    clear hl hS S4 PP PN NLL
    go_upto_region 8 with fail
    go_cut [55] (fun s55 wx=>s55 = .bool dd∧RlA w A c L wx∧RrA w cb s y wx)
    case first=>
     have c2:=S5.out.e2
     by_cases he:y.e=0
     ·rw[he] at c2
      have LX:=LY.out A c _ ⟨R5.out,S5.out⟩
      by_cases hr:y.r=[]
      ·have hd:=HDD.out
       rw[decide_eq_decide.2 (show(y.e=0∧y.r=[]∧T≠X)↔T≠X from⟨fun h=>h.2.2,fun h=>⟨he,hr,h⟩⟩)] at hd
       rw[hr] at LX
       have hx1:=HTX.out.1
       have hx2:=HTX.out.2
       rw[hd] at hx2
       have hx3:((bs T).toList==(bs X).toList)=!dd:=by rw[←hx2,bne,Bool.not_not]
       have HX:=Lib.hid (And.intro hx3 hx2)
       replace LX:=Lib.hid LX
       clear he hr hd hx1 hx2 hx3 LY HDD HTX
       generalize bs T=T' at *
       generalize bs X=X' at *
       go_wp2_with fail
       refine(LX.out).mono ?_
       rintro e W6 ⟨rfl,hS⟩
       have S6:=Lib.hid hS
       clear hS c2
       have SX:=Lib.hid (SH.out A c W6 S6.out.1 S6.out.2)
       have c2:=S6.out.2.e2
       have hx3:=HX.out.1
       have hx2:=HX.out.2
       go_wp2_with fail
       refine(SX.out).mono ?_
       rintro e W7 ⟨rfl,hS⟩
       have S7:=Lib.hid hS
       clear hS
       go_wp2_with fail
       go_meet
       exact⟨rfl,S7.out⟩
      ·have q3:(((y.r.length:Nat):Int)==0)=false:=by
        have:=List.length_pos_iff.2 hr
        simp;omega
       have hd:=HDD.out
       rw[decide_eq_false (fun h=>hr h.2.1)] at hd
       subst hd
       generalize y.r.length=n3 at *
       replace LX:=Lib.hid LX
       clear he hr LY HDD HTX
       go_wp2_with fail
       refine(LX.out).mono ?_
       rintro e W6 ⟨rfl,hS⟩
       have S6:=Lib.hid hS
       clear hS
       go_wp2_with fail
       go_meet
       exact⟨rfl,S6.out⟩
     ·have hd:=HDD.out
      rw[decide_eq_false (fun h=>he h.1)] at hd
      subst hd
      obtain⟨f,hf⟩:∃f,y.e=f:=⟨_,rfl⟩
      rw[hf] at c2 he
      have q3:((f:Int)==0)=false:=by simp;omega
      clear he hf LY HDD HTX
      go_wp2_with fail
      go_meet
      exact⟨rfl,R5.out,S5.out⟩
    case rest=>
     obtain⟨rfl,hl,hS⟩:=hcut
     have S6:=Lib.hid (And.intro hl hS)
     clear hl hS S5 R5 SH LY HDD HTX
     go_upto_if 55 with fail
     go_cut [] (fun wx=>RlA w A c L wx∧RrA w cb s Y wx)
     case first=>
      cases dd with
      | true=>
       have hy:=HYD.out
       rw[if_pos rfl] at hy
       have HY:=Lib.hid hy
       clear hy HYD
       go_wp2_with fail
       refine(FL.out A c _ S6.out).mono ?_
       rintro e W7 ⟨rfl,hS⟩
       have S7:=Lib.hid hS
       clear hS
       go_wp2_with fail
       go_meet
       rw[←HY.out]
       exact S7.out
      | false=>
       have hy:=HYD.out
       rw[if_neg (by decide)] at hy
       have HY:=Lib.hid hy
       clear hy HYD
       go_wp2_with fail
       go_meet
       rw[←HY.out]
       exact S6.out
     case rest=>
      have S7:=Lib.hid hcut
      clear hcut S6
      go_wp2_with fail
      go_ret2
      exact⟨⟨A,c,rfl,S7.out.1⟩,S7.out.2⟩
end
def FewA(L:List Pr):Prop:=L.length≤1010∧∀p∈L,p.text.length≤200000
theorem qluz(v kind:Int)(y:Cs):FewA (y.rest v kind).1.2:=by
 have hn:FewA []:=⟨Nat.zero_le _,fun p hp=>(nomatch hp)⟩
 unfold Cs.rest
 split
 ·exact hn
 ·simp only
  split
  ·exact hn
  ·unfold Cs.props
   split
   ·exact hn
   ·exact⟨(q7ml kind _).1,(q7ml kind _).2.1⟩
def qd31(w:World)(R:Pk×Nat)(e:Ending)(W:World):Prop:=
 ∃a:Ad,e = .returned (.tuple #[.agg (pkC R.1 a),.int .i64 (R.2:Nat)])∧PkAt W R.1 a∧Below w.heap.size w W
structure ReA(w:World)(cb:Nat)(s:ByteArray)(B:Nat)(P:Pk)(a:Ad)(y:Cs)(D:Array Value)(u:Bool×Bool)(W:World):Prop where
 low:Below w.heap.size w W
 rs:W.heap[w.heap.size]? = some (.cells (if u.2=true then D else pkZ) 35 (0,0))
 pk:W.heap[B]? = some (.cells (pkC P a) 35 (0,0))
 cs:u.1=false→RsAt W cb s y
 ps:PL W a.ps P.props
 c1:w.heap.size < cb
 c2:cb < B
 pf:∀g i,a.ps=some ⟨g,i,none⟩→B < g
section
variable{w W W':World}{cb:Nat}{s:ByteArray}{B:Nat}{P P':Pk}{a a':Ad}{y y':Cs}{D:Array Value}{u:Bool×Bool}
theorem ReA.below(h:ReA w cb s B P a y D u W)(hb:Below W.heap.size W W'):ReA w cb s B P a y D u W':=
 ⟨qxh2 h.low hb,(hb.block _ (lt_of_block h.rs)).trans h.rs,(hb.block _ (lt_of_block h.pk)).trans h.pk,fun e=>(h.cs e).below hb,h.ps.below hb,h.c1,h.c2,h.pf⟩
theorem ReA.call{b:Bool}(h:ReA w cb s B P a y D u W)(hg:W.grownBy W' (some cb))(hc:b=false→RsAt W' cb s y'):ReA w cb s B P a y' D (b,u.2) W':=
 ⟨h.low.grown hg h.low.size (fun k e=>by have:=Option.some.inj e;have:=h.c1;omega),(hg.block _ (lt_of_block h.rs) (fun e=>by have:=Option.some.inj e;have:=h.c1;omega)).trans h.rs,(hg.block _ (lt_of_block h.pk) (fun e=>by have:=Option.some.inj e;have:=h.c2;omega)).trans h.pk,
  hc,h.ps.grown hg (fun g i e=>by have:=h.pf g i e;have:=h.c2;omega),h.c1,h.c2,h.pf⟩
theorem ReA.put(h:ReA w cb s B P a y D u W)(j:Nat)(v:Value)(he:(pkC P a).setIfInBounds j v=pkC P' a')(ps:PL W a'.ps P'.props)(pf:∀g i,a'.ps=some ⟨g,i,none⟩→B < g):ReA w cb s B P' a' y D u (W.setCell ⟨B,j,none⟩ v):=by
 have o:∀k,k≠B→(W.setCell ⟨B,j,none⟩ v).heap[k]? = W.heap[k]? := fun k hk=>heap_setCell_other W ⟨B,j,none⟩ k v hk
 have c1:=h.c1
 have c2:=h.c2
 exact⟨qo4g h.low (by omega),(o _ (by omega)).trans h.rs,qv6p h.pk he,fun e=>(h.cs e).of_block (o _ (by omega)),ps.kept (q99v W B j v).size (fun g i e _=>o g (by have:=pf g i e;omega)),c1,c2,pf⟩
theorem ReA.store(h:ReA w cb s B P a y D (true,false) W):ReA w cb s B P a y D (true,true) (W.setRow w.heap.size D):=by
 have c1:=h.c1
 have c2:=h.c2
 exact⟨q8xz h.low (Nat.le_refl _) _,setRow_heap _ _ _ D _ _ h.rs,(setRow_other _ _ _ _ (by omega)).trans h.pk,fun e=>(by cases e),h.ps.kept (by simp[World.setRow]) (fun g i e _=>setRow_other _ _ _ _ (by have:=h.pf g i e;omega)),c1,c2,h.pf⟩
theorem ReA.cell(h:ReA w cb s B P a y D u W)(j:Nat):W.cell? ⟨B,j,none⟩=(pkC P a)[j]? := cell_of_row _ _ j _ _ _ h.pk
theorem ReA.fr(h:ReA w cb s B P a y D u W)(j:Nat):W.frozen? ⟨B,j,none⟩=false:=frozen_of_row _ _ _ _ _ h.pk
end
def qgh7(v:Int)(P:Pk)(y:Cs)(R:Pk×Nat):Prop:=(if (qveh y (validK v P)).e≠0 then(Pk.zero,(qveh y (validK v P)).e) else(P,0))=R
def pkK(kind:Int)(c:Nat)(l:List Pr):Pk:={Pk.zero with kind:=kind,code:=(c:Nat),props:=l}
def FitK(P:Pk)(a:Ad):Prop:=P.props.length≤a.pc∧a.pc≤9223372036854775807∧∀W,PL W a.ps P.props→PkAt W P a
theorem qbxu(v kind:Int)(y:Cs):FewA (q9kh v kind y).1.props:=by
 unfold q9kh
 split
 ·exact⟨Nat.zero_le _,fun p hp=>(nomatch hp)⟩
 ·exact qluz v kind y
theorem qnbq(v kind:Int)(y:Cs):q21o (q9kh v kind y).1:=by
 have h:=(qbxu v kind y).1
 unfold q9kh at h ⊢
 split
 ·exact⟨Nat.zero_le _,Nat.zero_le _,Nat.zero_le _,Nat.zero_le _⟩
 ·rename_i hp
  rw[if_neg hp] at h
  exact⟨Nat.zero_le _,Nat.zero_le _,Nat.le_trans h (by decide),Nat.zero_le _⟩
theorem q8br(v kind:Int)(s:ByteArray)(w:World)(hk0:-9223372036854775808≤kind)(hk1:kind≤9223372036854775807)(hm:s.size≤2000) :
 Calls Tryz.prog 16 #[.int .i64 v,.int .i64 kind,.string s] w (qd31 w (qf4x v kind s.data.toList)):=by
 have HZ:=Lib.hid qbwp
 have hzv:=qrai
 have hne:¬pkZ=#[]:=by intro h;have:=qbwp;rw[h] at this;cases this
 have PZ:Hid (pkZ.all (·.oneCell')=true):=Lib.hid (qmz0 Pk.zero adZ)
 have R0:=Lib.hid (heap_alloc_new w (.cells pkZ 35))
 have L0:=Lib.hid (qybm (w:=w) (.cells pkZ 35))
 have ZW:=Lib.hid (show(w.alloc (.cells pkZ 35)).heap.size=w.heap.size+1 by simp)
 have VE:=fun W=>qyet v W
 have PN:=fun W=>qjaz v kind W
 obtain⟨R,hR⟩:∃R,qf4x v kind s.data.toList=R:=⟨_,rfl⟩
 rw[hR]
 obtain⟨b1,hb1⟩:∃b,(qulp v&&q5t0 kind)=b:=⟨_,rfl⟩
 have HB1:=Lib.hid hb1
 have HR:=Lib.hid hR
 have HM:=Lib.hid hm
 have HK:=Lib.hid (And.intro hk0 hk1)
 replace PN:=Lib.hid PN
 clear hR hb1 hm hk0 hk1
 go_enter Tryz.func16,Tryz.ntmps16
 go_upto_region 1 with fail
 generalize w.alloc (.cells pkZ 35)=W0 at *
 go_cut [20] (fun s20 wx=>s20 = .bool (!b1)∧wx=W0)
 case first=>
  have hb:=HB1.out
  unfold q5t0 at hb
  clear HK HM HR HB1 PN
  generalize kind=k at *
  cases hv:qulp v with
  | false=>
   rw[hv,Bool.false_and] at hb
   rw[hv] at VE
   subst hb
   replace VE:=Lib.hid VE
   clear hv
   go_wp2_with fail
   refine(VE.out _).mono ?_
   rintro e W ⟨rfl,rfl⟩
   go_wp2_with fail
   go_meet
   exact⟨rfl,rfl⟩
  | true=>
   rw[hv,Bool.true_and] at hb
   rw[hv] at VE
   replace VE:=Lib.hid VE
   clear hv
   by_cases h4:12≤k
   ·have g1:decide (k < 12)=false:=decide_eq_false (by omega)
    rw[decide_eq_true h4,Bool.true_and] at hb
    have HT:=Lib.hid (show decide (15 < k)=!b1 by
     rw[←hb,←decide_not,decide_eq_decide]
     omega)
    clear hb h4
    go_wp2_with fail
    refine(VE.out _).mono ?_
    rintro e W ⟨rfl,rfl⟩
    go_wp2_with fail
    go_meet
    exact⟨congrArg Value.bool HT.out,rfl⟩
   ·have g1:decide (k < 12)=true:=decide_eq_true (by omega)
    rw[decide_eq_false h4,Bool.false_and] at hb
    subst hb
    clear h4
    go_wp2_with fail
    refine(VE.out _).mono ?_
    rintro e W ⟨rfl,rfl⟩
    go_wp2_with fail
    go_meet
    exact⟨rfl,rfl⟩
 case rest=>
  obtain⟨rfl,rfl⟩:=hcut
  have RE0:∀n:Nat,Hid ((Pk.zero,n)=R→qd31 w R (.returned (.tuple #[.agg pkZ,.int .i64 (n:Nat)])) (wc.setRow w.heap.size pkZ)):=fun n=>Lib.hid fun hr=>by
   rw[←hr];exact⟨adZ,rfl,qa3p _,q8xz L0.out (Nat.le_refl _) _⟩
  cases b1 with
  | false=>
   have RT:=Lib.hid ((RE0 2).out (by rw[←HR.out,qf4x,if_pos HB1.out]))
   clear HR HB1 VE PN RE0
   go_wp2_with (first
    | (refine wpList_buildTo rfl 35 _ rfl (some _) rfl pkZ (by kernel_rfl) ?_)
    | (refine wpList_store_row rfl _ _ _ rfl w.heap.size pkZ rfl rfl 35 _ R0.out (by rw[HZ.out];exact q5nr) rfl PZ.out ?_))
   exact q8iy (cs:=pkZ) rfl rfl rfl rfl Tryz.underlying35 rfl (by rw[HZ.out];exact q5nr) (setRow_heap _ _ _ _ _ _ R0.out) RT.out
  | true=>
   have hvk:(v=4∨v=5)∧(12≤kind∧kind≤15):=by
    have:=HB1.out
    simp only[Bool.and_eq_true,qulp,q5t0,Bool.or_eq_true,beq_iff_eq,decide_eq_true_eq] at this
    exact this
   have hx:=HR.out
   rw[qf4x,if_neg (by rw[HB1.out];decide)] at hx
   by_cases h15:kind=15∧v=4
   ·rw[if_pos h15] at hx
    have RT:=Lib.hid ((RE0 8).out hx)
    obtain⟨rfl,rfl⟩:=h15
    clear HR HB1 VE PN RE0 hx hvk
    go_wp2_with (first
     | (refine wpList_buildTo rfl 35 _ rfl (some _) rfl pkZ (by kernel_rfl) ?_)
     | (refine wpList_store_row rfl _ _ _ rfl w.heap.size pkZ rfl rfl 35 _ R0.out (by rw[HZ.out];exact q5nr) rfl PZ.out ?_))
    exact q8iy (cs:=pkZ) rfl rfl rfl rfl Tryz.underlying35 rfl (by rw[HZ.out];exact q5nr) (setRow_heap _ _ _ _ _ _ R0.out) RT.out
   ·rw[if_neg h15] at hx
    have HV:=Lib.hid (And.intro hvk h15)
    have HX:Hid (qgh7 v (q9kh v kind ⟨s.data.toList,0⟩).1 (q9kh v kind ⟨s.data.toList,0⟩).2 R):=Lib.hid hx
    clear HR HB1 VE RE0 hx hvk
    go_upto_region 3 with fail
    generalize wc=V0 at *
    go_cut [27] (fun s27 wx=>s27 = .bool false∧wx=V0)
    case first=>
     clear HX HK PN
     by_cases h5:kind=15
     ·subst h5
      obtain rfl:v=5:=by
       have:=HV.out
       rcases this.1.1 with h | h
       ·exact absurd ⟨rfl,h⟩ this.2
       ·exact h
      clear HV h15
      go_wp2_with fail
      go_meet
      exact⟨rfl,rfl⟩
     ·have e1:(kind==15)=false:=beq_eq_false_iff_ne.2 h5
      clear HV h5 h15
      generalize kind=k at *
      go_wp2_with fail
      go_meet
      exact⟨rfl,rfl⟩
    case rest=>
     obtain⟨rfl,rfl⟩:=hcut
     clear h15
     obtain⟨D0,hD0⟩:∃D,pkC (pkK kind 0 []) adZ=D:=⟨_,rfl⟩
     have HD0:=Lib.hid hD0
     have HD1:=Lib.hid (show D0.size=25 by rw[←hD0];exact qwmp _ _)
     have HD2:=Lib.hid (show D0.all (·.oneCell')=true by rw[←hD0];exact qmz0 _ _)
     clear hD0
     go_wp2_with fail
     refine(qvbz s _).mono ?_
     rintro e W1 ⟨rfl,hc,hb1⟩
     have hc:RsAt W1 wc.heap.size s ⟨s.data.toList,0⟩:=⟨0,Nat.zero_le _,hc,by simp⟩
     have c1:w.heap.size < wc.heap.size:=by rw[ZW.out];omega
     have hlt:=hc.lt
     have hbx:Below W1.heap.size W1 ((W1.alloc (.cells pkZ 35)).setRow W1.heap.size D0):=q8xz (qybm (w:=W1) (.cells pkZ 35)) (Nat.le_refl _) D0
     have S3:ReA w wc.heap.size s W1.heap.size (pkK kind 0 []) adZ ⟨s.data.toList,0⟩ pkZ (false,false) ((W1.alloc (.cells pkZ 35)).setRow W1.heap.size D0):=
      ⟨qxh2 (qxh2 L0.out hb1) hbx,(hbx.block _ (by have:=hb1.size;have:=lt_of_block R0.out;omega)).trans ((hb1.block _ (lt_of_block R0.out)).trans R0.out),
       by rw[HD0.out];exact setRow_heap _ _ _ D0 _ _ (heap_alloc_new W1 _),fun _=>hc.below hbx,PL.nil,c1,hlt,fun g i e=>by cases e⟩
     have S3:=Lib.hid S3
     clear hc hb1 c1 hlt hbx
     go_upto_region 7 with (first
      | (refine wpList_buildTo rfl 35 _ rfl (some _) rfl D0 (by rw[←HD0.out];kernel_rfl) ?_)
      | (refine wpList_store_row rfl _ _ _ rfl W1.heap.size D0 rfl rfl 35 _ (heap_alloc_new W1 _) (by rw[HD1.out];exact q5nr) (by rw[HZ.out,HD1.out]) HD2.out ?_))
     generalize (W1.alloc (.cells pkZ 35)).setRow W1.heap.size D0=W3 at *
     generalize W1.heap.size=B at *
     generalize wc.heap.size=cb at *
     clear R0 L0 ZW HD0 HD1 HD2 hzv hne
     go_wp2_with fail
     refine(PN.out _).mono ?_
     rintro e W ⟨rfl,rfl⟩
     go_upto_if 36 with fail
     go_cut [] (fun wx=>∃a:Ad,ReA w cb s B (q9kh v kind ⟨s.data.toList,0⟩).1 a (q9kh v kind ⟨s.data.toList,0⟩).2 pkZ (false,false) wx∧FitK (q9kh v kind ⟨s.data.toList,0⟩).1 a)
     case first=>
      have RE:=fun W (h:RsAt W cb s ⟨s.data.toList,0⟩)=>qtma v kind HV.out.1.1 HK.out.1 HK.out.2 HM.out h
      clear HX PN
      have PE:∀W,(∃a:Ad,ReA w cb s B (if q6gd v kind=true then(pkK kind 0 [],(⟨s.data.toList,0⟩:Cs)) else(pkK kind ((Cs.mk s.data.toList 0).rest v kind).1.1 ((Cs.mk s.data.toList 0).rest v kind).1.2,((Cs.mk s.data.toList 0).rest v kind).2)).1 a (if q6gd v kind=true then(pkK kind 0 [],(⟨s.data.toList,0⟩:Cs)) else(pkK kind ((Cs.mk s.data.toList 0).rest v kind).1.1 ((Cs.mk s.data.toList 0).rest v kind).1.2,((Cs.mk s.data.toList 0).rest v kind).2)).2 pkZ (false,false) W∧FitK (if q6gd v kind=true then(pkK kind 0 [],(⟨s.data.toList,0⟩:Cs)) else(pkK kind ((Cs.mk s.data.toList 0).rest v kind).1.1 ((Cs.mk s.data.toList 0).rest v kind).1.2,((Cs.mk s.data.toList 0).rest v kind).2)).1 a)→
       ∃a:Ad,ReA w cb s B (q9kh v kind ⟨s.data.toList,0⟩).1 a (q9kh v kind ⟨s.data.toList,0⟩).2 pkZ (false,false) W∧FitK (q9kh v kind ⟨s.data.toList,0⟩).1 a:=fun W h=>h
      cases hp:q6gd v kind with
      | true=>
       rw[hp] at PE
       simp only[if_true] at PE
       have S4:=Lib.hid (PE W3 ⟨adZ,S3.out,Nat.le_refl _,by decide,fun W h=>⟨fun e=>absurd rfl e,fun e=>absurd rfl e,fun e=>absurd rfl e,h⟩⟩)
       clear S3 RE hp PE
       go_wp2_with fail
       go_meet
       exact S4.out
      | false=>
       rw[hp] at PE
       simp only[Bool.false_eq_true,if_false] at PE
       obtain⟨r,hrr⟩:∃r,(Cs.mk s.data.toList 0).rest v kind=r:=⟨_,rfl⟩
       rw[hrr] at RE PE
       obtain⟨⟨c,L⟩,y⟩:=r
       simp only at RE PE
       have RE:=Lib.hid RE
       have PE:=Lib.hid PE
       clear hrr hp
       go_wp2_with fail
       refine(RE.out _ (S3.out.cs rfl)).mono ?_
       rintro e W4 ⟨⟨A,cp,rfl,hl⟩,hS⟩
       have hB:=lt_of_block S3.out.pk
       have S4:=S3.out.call (b:=false) hS.g (fun _=>hS.cs)
       have S5:=S4.put 21 (.int .i64 (c:Int)) (P':=pkK kind c []) (a':=adZ) rfl PL.nil (fun g i e=>by cases e)
       have hpl:PL (W4.setCell ⟨B,21,none⟩ (.int .i64 (c:Int))) A L:=hl.pl.kept (q99v W4 B 21 _).size (fun g i e _=>heap_setCell_other W4 ⟨B,21,none⟩ g _ (by show g≠B;have:=hl.far g i e;omega))
       have S6:=S5.put 24 (.slice A L.length cp) (P':=pkK kind c L) (a':={adZ with ps:=A,pc:=cp}) rfl hpl (fun g i e=>by have:=hl.far g i e;omega)
       have n21:W4.cell? ⟨B,21,none⟩=some (.int .i64 0):=S4.cell 21
       have f21:=S4.fr 21
       have n24:(W4.setCell ⟨B,21,none⟩ (.int .i64 (c:Int))).cell? ⟨B,24,none⟩=some (.slice none 0 0):=S5.cell 24
       have f24:=S5.fr 24
       have S7:=Lib.hid (PE.out _ ⟨_,S6,hl.cap,hl.capm,fun W h=>⟨fun e=>absurd rfl e,fun e=>absurd rfl e,fun e=>absurd rfl e,h⟩⟩)
       clear PE hB S4 S5 S6 hpl hl hS S3 RE
       go_wp2_with fail
       go_meet
       exact S7.out
     case rest=>
      obtain⟨a,S6,hfit⟩:=hcut
      have hfew:=qbxu v kind ⟨s.data.toList,0⟩
      have hsh:=qnbq v kind ⟨s.data.toList,0⟩
      have hx:=HX.out
      clear S3 HX PN
      obtain⟨x,hxx⟩:∃x,q9kh v kind ⟨s.data.toList,0⟩=x:=⟨_,rfl⟩
      rw[hxx] at S6 hfit hfew hsh hx
      obtain⟨P,y⟩:=x
      simp only at S6 hfit hfew hsh hx
      have FP:RkP P a∧q21o P∧∀W,PL W a.ps P.props→PkAt W P a:=⟨⟨hfew.1,hfit.1,hfit.2.1,hfew.2⟩,hsh,hfit.2.2⟩
      unfold qgh7 at hx
      have S7:=S6
      clear hxx hfew hsh hfit
      go_upto_region 9 with fail
      have VA:=fun W (h:PkAt W P a)=>qvrn v P a W h FP.2.1 FP.1
      obtain⟨f,hf⟩:∃f,validK v P=f:=⟨_,rfl⟩
      rw[hf] at VA hx
      have DN:=fun W (h:RsAt W cb s y)=>qeyg (p:=P) (a:=a) f (show s.size≤9223372036854775807 by have:=HM.out;omega) h
      obtain⟨d,hd⟩:∃d,qveh y f=d:=⟨_,rfl⟩
      rw[hd] at hx DN
      have hE1:=qwmp P a
      have hE2:=qmz0 P a
      have hDD1:(if d.e≠0 then pkZ else pkC P a).size=25:=by split;exact qbwp;exact hE1
      have hDD2:(if d.e≠0 then pkZ else pkC P a).all (·.oneCell')=true:=by split;exact qmz0 Pk.zero adZ;exact hE2
      have RT:∀W,Below w.heap.size w W→PL W a.ps P.props→qd31 w R (.returned (.tuple #[.agg (if d.e≠0 then pkZ else pkC P a),.int .i64 ((d.e:Nat):Int)])) W:=fun W hb h1=>by
       rw[←hx]
       by_cases h0:d.e≠0
       ·simp only[if_pos h0]
        exact⟨adZ,rfl,qa3p _,hb⟩
       ·simp only[if_neg h0]
        exact⟨a,by rw[show d.e=0 by simpa using h0],FP.2.2 W h1,hb⟩
      have S9:ReA w cb s B P a y (if d.e≠0 then pkZ else pkC P a) (false,false) wc.drew:=(ReA.mk S7.low S7.rs S7.pk S7.cs S7.ps S7.c1 S7.c2 S7.pf:ReA w cb s B P a y (if d.e≠0 then pkZ else pkC P a) (false,false) wc).below (Below.refl _ _).drew
      generalize (if d.e≠0 then pkZ else pkC P a)=D at *
      have FPH:=Lib.hid FP
      replace RT:=Lib.hid RT
      replace VA:=Lib.hid VA
      replace DN:=Lib.hid DN
      have HDD1:=Lib.hid hDD1
      have HDD2:=Lib.hid hDD2
      have HE1:=Lib.hid hE1
      replace S9:=Lib.hid S9
      clear S6 S7 hx hf hd hE1 hE2 hDD1 hDD2 FP
      refine qn0u (S:=fun u W=>ReA w cb s B P a y D u W) (B:=B) (R:=w.heap.size) (cb:=cb) (v:=v) (k:=(f:Nat)) (z:=((d.e:Nat):Int)) (C:=pkC P a) (D:=D) S9.out HE1.out HDD1.out HDD2.out (fun x W h=>h.pk) (fun x W h h2=>by have:=h.rs;rw[h2] at this;exact this)
       (fun x W h=>(VA.out W (FPH.out.2.2 W h.ps)).mono fun e W' hh=>⟨hh.1,h.below hh.2⟩)
       (fun x W h h1=>(DN.out W (h.cs h1)).mono fun e W' hh=>⟨hh.1,h.call hh.2 (fun e=>by cases e)⟩)
       (fun x W h h1 h2=>by
        obtain⟨x1,x2⟩:=x
        simp only at h1 h2
        subst h1 h2
        exact h.store) ?_
      intro W h
      have GR:=Lib.hid (show W.heap[w.heap.size]? = some (.cells D 35 (0,0)) from h.rs)
      have RTV:=Lib.hid (RT.out W h.low h.ps)
      clear h S9 VA DN RT
      go_wp2_with fail
      exact q8iy (cs:=D) rfl rfl rfl rfl Tryz.underlying35 rfl (by rw[HDD1.out];exact q5nr) GR.out RTV.out
theorem qo8j{l:List Pr}{n:Nat}(h:qymj l≤n):∀x∈l,x.text.length≤n:=by
 induction l with
 | nil=>intro x hx;cases hx
 | cons y l ih=>
  intro x hx
  have e:qymj (y::l)=y.text.length+y.value.length+qymj l:=by simp[qymj]
  rw[e] at h
  rcases List.mem_cons.1 hx with rfl | hx
  ·omega
  ·exact ih (by omega) x hx
theorem qj99{p:Pk}{a:Ad}(h:qa3g p=true)(ca:p.props.length≤a.pc)(cm:a.pc≤9223372036854775807):RkP p a:=by
 obtain⟨_,_,h3,_⟩:=q2qrt h
 unfold qa3g q2y5 q3em at h
 simp only[Bool.and_eq_true,decide_eq_true_eq] at h
 exact⟨h3,ca,cm,fun x hx=>Nat.le_trans (qo8j h.1.1.1.1.2 x hx) (by decide)⟩
theorem qstc{p:Pk}(h:qa3g p=true):q21o p:=by
 obtain⟨h1,h2,h3,h4⟩:=q2qrt h
 exact⟨by omega,by omega,by omega,by omega⟩
structure AqS(w:World)(p:Pk)(a:Ad)(P:Pk)(b1 b2:Nat)(a1 a2:Ad)(W:World):Prop where
 bx:BxS w p a W
 c:W.heap[b1]? = some (.cells (pkC P a1) 35 (0,0))
 d:W.heap[b2]? = some (.cells (pkC P a2) 35 (0,0))
 ac:PkAt W P a1
 ad:PkAt W P a2
theorem AqS.below{w W W':World}{p P:Pk}{a a1 a2:Ad}{b1 b2:Nat}(h:AqS w p a P b1 b2 a1 a2 W)(hb:Below W.heap.size W W'):AqS w p a P b1 b2 a1 a2 W':=
 ⟨h.bx.call hb,(hb.block _ (lt_of_block h.c)).trans h.c,(hb.block _ (lt_of_block h.d)).trans h.d,h.ac.below hb,h.ad.below hb⟩
theorem qze1(v k:Int)(p:Pk)(a:Ad)(s:ByteArray)(w:World)(hp:PkAt w p a)(ok:PkOk p)(ca:PkCap p a)(cm:a.pc≤9223372036854775807∧a.wc≤9223372036854775807)(hk:-9223372036854775808≤k∧k≤9223372036854775807)(hs:s.size≤9223372036854775807) :
 Calls Tryz.prog 4 #[.int .i64 v,pkV p a,.int .i64 k,.string s] w fun e w'=>e = .returned (.bool true)∧Below w.heap.size w w':=by
 have S0:=Lib.hid (BxS.made w p a)
 have LG:=fun W (h:BxS w p a W)=>q1dl p a W (hp.below h.low) ok
 have C1:=Lib.hid (qwmp p a)
 have HZ:=Lib.hid qbwp
 have hzv:=qrai
 have hne:¬pkZ=#[]:=by intro h;have:=qbwp;rw[h] at this;cases this
 cases hl:qa3g p with
 | false=>
  rw[hl] at LG
  have LG:=Lib.hid LG
  clear hl
  unfold pkV at *
  go_enter Tryz.func4,Tryz.ntmps4
  go_wp2_with fail
  refine(qpnd _).mono ?_
  rintro e W ⟨rfl,hb⟩
  have S1:=Lib.hid (S0.out.call hb)
  clear hb
  go_wp2_with (refine wpList_load_row rfl _ _ rfl w.heap.size rfl 35 _ (0,0) _ S1.out.box Tryz.underlying35 rfl (by rw[C1.out];exact q5nr) ?_)
  refine(LG.out _ S1.out).mono ?_
  rintro e W2 ⟨rfl,hb⟩
  have L2:=Lib.hid (qxh2 S1.out.low hb)
  clear hb
  go_wp2_with fail
  go_ret
  exact⟨rfl,L2.out⟩
 | true=>
  rw[hl] at LG
  have sp:=qstc hl
  have fp:=qj99 hl ca.pc cm.1
  have LK:=q2qrt hl
  have LG:=Lib.hid LG
  clear hl
  by_cases h2:2000 < s.size
  ·have hd:decide ((2000:Int) < (s.size:Int))=true:=decide_eq_true (by omega)
   clear h2 LK
   unfold pkV at *
   go_enter Tryz.func4,Tryz.ntmps4
   go_wp2_with fail
   refine(qpnd _).mono ?_
   rintro e W ⟨rfl,hb⟩
   have S1:=Lib.hid (S0.out.call hb)
   clear hb
   go_wp2_with (refine wpList_load_row rfl _ _ rfl w.heap.size rfl 35 _ (0,0) _ S1.out.box Tryz.underlying35 rfl (by rw[C1.out];exact q5nr) ?_)
   refine(LG.out _ S1.out).mono ?_
   rintro e W2 ⟨rfl,hb⟩
   have L2:=Lib.hid (qxh2 S1.out.low hb)
   clear hb
   go_wp2_with fail
   go_ret
   exact⟨rfl,L2.out⟩
  ·have hd:decide ((2000:Int) < (s.size:Int))=false:=decide_eq_false (by omega)
   have h20:s.size≤2000:=by omega
   have OW:=fun W (h:BxS w p a W)=>qzxl p a W (hp.below h.low) (by omega) (by omega) (by omega) (by omega)
   have BO:=fun(b:Ad) W (h:PkAt W p b) (hc:p.props.length≤b.pc∧p.wProps.length≤b.wc)=>qck4 v p b W h sp ok hc.1
   have RB:=fun W (h:BxS w p a W)=>qxku v p a W (hp.below h.low) sp fp
   have VA:=fun W (h:BxS w p a W)=>qcuz v p a W (hp.below h.low) sp ok ca.pc
   have RV:=fun W (h:BxS w p a W)=>qvrn v p a W (hp.below h.low) sp fp
   have T1:=fun W (h:BxS w p a W)=>qv9d p.code k p a W (hp.below h.low) sp ok ca.pc hk
   have T2:=fun W (h:BxS w p a W)=>q6ug p.code k a.ps p.props.length a.pc p.props W (fp.ps W (hp.below h.low))
   have RD:=fun W=>qpg4 v k s W hk.1 hk.2 (by omega)
   have RR:=fun W=>q8br v k s W hk.1 hk.2 h20
   obtain⟨R,hR⟩:∃R,qf4x v k s.data.toList=R:=⟨_,rfl⟩
   rw[hR] at RD RR
   have HR:=Lib.hid hR
   obtain⟨A,hA⟩:∃A,q2jl v p=A:=⟨_,rfl⟩
   rw[hA] at RB
   have BO:=fun b W h hc=>BO b W h hc
   rw[hA] at BO
   have OW:=Lib.hid OW
   have BO:=Lib.hid BO
   have RB:=Lib.hid RB
   have VA:=Lib.hid VA
   have RV:=Lib.hid RV
   have T1:=Lib.hid T1
   have T2:=Lib.hid T2
   have RD:=Lib.hid RD
   have RR:=Lib.hid RR
   have HP:=Lib.hid hp
   clear h2 hs h20 hR hA LK sp fp ca cm ok hp hk
   unfold pkV at *
   go_enter Tryz.func4,Tryz.ntmps4
   go_wp2_with fail
   refine(qpnd _).mono ?_
   rintro e W ⟨rfl,hb⟩
   have S1:=Lib.hid (S0.out.call hb)
   clear hb
   go_wp2_with (refine wpList_load_row rfl _ _ rfl w.heap.size rfl 35 _ (0,0) _ S1.out.box Tryz.underlying35 rfl (by rw[C1.out];exact q5nr) ?_)
   refine(LG.out _ S1.out).mono ?_
   rintro e W2 ⟨rfl,hb⟩
   have S2:=Lib.hid (S1.out.call hb)
   clear hb S1
   go_wp2_with (refine wpList_load_row rfl _ _ rfl w.heap.size rfl 35 _ (0,0) _ S2.out.box Tryz.underlying35 rfl (by rw[C1.out];exact q5nr) ?_)
   refine(OW.out _ S2.out).mono ?_
   rintro e W3 ⟨b,rfl,hat,hcb,hb⟩
   have S3:=Lib.hid (S2.out.call hb)
   have BB:=Lib.hid (BO.out b W3 hat hcb)
   clear hb hat hcb S2 BO
   go_wp2_with fail
   refine(BB.out).mono ?_
   rintro e W4 ⟨rfl,hb⟩
   have S4:=Lib.hid (S3.out.call hb)
   clear hb S3 BB
   go_wp2_with (refine wpList_load_row rfl _ _ rfl w.heap.size rfl 35 _ (0,0) _ S4.out.box Tryz.underlying35 rfl (by rw[C1.out];exact q5nr) ?_)
   refine(RB.out _ S4.out).mono ?_
   rintro e W5 ⟨rfl,hb⟩
   have S5:=Lib.hid (S4.out.call hb)
   clear hb S4 RB
   go_wp2_with fail
   refine(RD.out _).mono ?_
   rintro e W6 ⟨a1,rfl,at1,_,fit1,hb,_⟩
   have F0:=Lib.hid fit1.2
   clear fit1
   have S6:=S5.out.call hb
   have hbx:Below W6.heap.size W6 ((W6.alloc (.cells pkZ 35)).setRow W6.heap.size (pkC R.1 a1)):=q8xz (qybm _) (Nat.le_refl _) _
   have S7:=Lib.hid (S6.call hbx)
   have AT7:=Lib.hid (at1.below hbx)
   have R7:=Lib.hid (setRow_heap _ _ _ (pkC R.1 a1) _ _ (heap_alloc_new W6 (.cells pkZ 35)))
   have HD1:=Lib.hid (qwmp R.1 a1)
   have HD2:=Lib.hid (qmz0 R.1 a1)
   clear hb at1 S6 hbx S5
   go_upto_region 8 with (refine wpList_store_row rfl _ _ _ rfl W6.heap.size (pkC R.1 a1) rfl rfl 35 _ (heap_alloc_new W6 _) (by rw[HD1.out];exact q5nr) (by rw[HZ.out,HD1.out]) HD2.out ?_)
   generalize (W6.alloc (.cells pkZ 35)).setRow W6.heap.size (pkC R.1 a1)=W7 at *
   generalize W6.heap.size=b1 at *
   go_wp2_with fail
   refine(RR.out _).mono ?_
   rintro e W8 ⟨a2,rfl,at2,hb⟩
   have hbx:Below W8.heap.size W8 ((W8.alloc (.cells pkZ 35)).setRow W8.heap.size (pkC R.1 a2)):=q8xz (qybm _) (Nat.le_refl _) _
   have hbb:=qxh2 hb hbx
   have S9:=Lib.hid (show AqS w p a R.1 b1 W8.heap.size a1 a2 _ from⟨S7.out.call hbb,(hbb.block _ (lt_of_block R7.out)).trans R7.out,setRow_heap _ _ _ (pkC R.1 a2) _ _ (heap_alloc_new W8 (.cells pkZ 35)),AT7.out.below hbb,at2.below hbx⟩)
   have HE1:=Lib.hid (qwmp R.1 a2)
   have HE2:=Lib.hid (qmz0 R.1 a2)
   clear hb hbx hbb at2 S7 AT7 R7
   go_upto_region 9 with (refine wpList_store_row rfl _ _ _ rfl W8.heap.size (pkC R.1 a2) rfl rfl 35 _ (heap_alloc_new W8 _) (by rw[HE1.out];exact q5nr) (by rw[HZ.out,HE1.out]) HE2.out ?_)
   generalize (W8.alloc (.cells pkZ 35)).setRow W8.heap.size (pkC R.1 a2)=W9 at *
   generalize W8.heap.size=b2 at *
   have SM:=fun W (h:AqS w p a R.1 b1 b2 a1 a2 W)=>(qbsf R.1 a1 a2 W h.ac h.ad F0.out.1 F0.out.2.1 F0.out.2.2.1 F0.out.2.2.2)
   have V1:=fun W (h:AqS w p a R.1 b1 b2 a1 a2 W)=>(VA.out W h.bx)
   have V2:=fun W (h:AqS w p a R.1 b1 b2 a1 a2 W)=>(RV.out W h.bx)
   have V3:=fun W (h:AqS w p a R.1 b1 b2 a1 a2 W)=>(T1.out W h.bx)
   have V4:=fun W (h:AqS w p a R.1 b1 b2 a1 a2 W)=>(T2.out W h.bx)
   replace SM:=Lib.hid SM
   replace V1:=Lib.hid V1
   replace V2:=Lib.hid V2
   replace V3:=Lib.hid V3
   replace V4:=Lib.hid V4
   refine qekk (S:=AqS w p a R.1 b1 b2 a1 a2) (b:=w.heap.size) (b1:=b1) (b2:=b2) (S9.out.below (Below.refl _ _).drew) HD1.out HE1.out C1.out (fun W h=>h.c) (fun W h=>h.d) (fun W h=>h.bx.box) (fun W h=>h.bx.cell 21) (fun W h=>h.bx.cell 24)
    (fun W h=>(SM.out W h).mono fun e W' hh=>⟨hh.1,h.below hh.2⟩) (fun W h=>(V1.out W h).mono fun e W' hh=>⟨hh.1,h.below hh.2⟩) (fun W h=>(V2.out W h).mono fun e W' hh=>⟨hh.1,h.below hh.2⟩) (fun W h=>(V3.out W h).mono fun e W' hh=>⟨hh.1,h.below hh.2⟩) (fun W h=>(V4.out W h).mono fun e W' hh=>⟨hh.1,h.below hh.2⟩) ?_
   intro W h
   have LO:=Lib.hid h.bx.low
   clear h SM V1 V2 V3 V4
   go_wp2_with fail
   go_ret
   exact⟨rfl,LO.out⟩
end Go.Proofs.YtbklidpadffpgaaGreat
