/- The contracts of prop.measure at any list, and of prop.Valid. Condition: the fields of each property are what their types hold. -/
import Derived.Test.YtbklidpadffpgaaK43
import Derived.Test.YtbklidpadffpgaaK19
import Derived.Test.YtbklidpadffpgaaK25
import Derived.Test.YtbklidpadffpgaaK23
import Derived.Test.YtbklidpadffpgaaK28
set_option maxRecDepth 100000
set_option maxHeartbeats 2000000
namespace Go.Proofs.Ytbklidpadffpgaa
open Go.RowKit
theorem qwrj{B b:Nat}{W W':World}(hg:W.grownBy W' (some b))(hB:B≤W.heap.size)(hr:B≤b):Below B W W':=
 ⟨hg.os,hg.tape,hg.output,hg.size,fun k hk=>hg.block k (Nat.lt_of_lt_of_le hk hB) (fun e=>by have:=Option.some.inj e;omega)⟩
theorem qb0w{w:World}{b mb:Nat}{kind:Int}(A:Option Addr)(c:Nat)(h:TalL w b mb kind []) :
 Calls Try.prog 26 #[.pointer (some ⟨b,0,none⟩),.slice A 0 c] w fun e w'=>e = .returned (.tuple #[.int .i64 0,.int .i64 0])∧w=w':=by
 have EN:=qtn3 h
 change Calls _ _ _ _ (fun e w'=>e=Ending.returned (.int .i64 0)∧_) at EN
 have EN:=Lib.hid EN
 go_enter Try.func26,Try.ntmps26
 go_wp2_with fail
 refine wp_loop_rounds 1 ?_
 rw[rounds_succ]
 go_wp2_with fail
 refine(EN.out).mono ?_
 rintro e w2 ⟨rfl,rfl⟩
 go_wp2_with fail
 go_ret2
 exact⟨rfl,rfl⟩
theorem qs4j{w:World}{b n:Nat}(A:Option Addr)(c:Nat)(hn:1000 < n) :
 Calls Try.prog 26 #[.pointer (some ⟨b,0,none⟩),.slice A n c] w fun e w'=>e = .returned (.tuple #[.int .i64 0,.int .i64 4])∧w=w':=by
 have h:(1000:Int) < (n:Int):=by omega
 clear hn
 go_enter Try.func26,Try.ntmps26
 go_wp2_with fail
 go_ret2
 exact⟨rfl,rfl⟩
theorem q2yl{w:World}{b mb:Nat}{kind:Int}(A:Option Addr)(n c:Nat)(l:List Pr)(h:TalL w b mb kind [])(hi:-9223372036854775808≤kind)(hj:kind≤9223372036854775807)(hl:PL w A l)(hgb:∀g i,A=some ⟨g,i,none⟩→l≠[]→g≠b)(hn:l.length=n)(hc:n≤c)(ok:∀p∈l,PrOk p) :
 Calls Try.prog 26 #[.pointer (some ⟨b,0,none⟩),.slice A n c] w fun e w'=>
  e = .returned (.tuple #[.int .i64 ((if qpyu kind l=0 then(q636 l).length else 0:Nat):Int),.int .i64 ((qpyu kind l:Nat):Int)])∧w.grownBy w' (some b)∧(qpyu kind l=0→TalL w' b mb kind l):=by
 subst hn
 by_cases h0:l=[]
 ·subst h0
  exact(qb0w A c h).mono fun e w' ⟨he,hw⟩=>⟨he,hw▸World.grownBy.refl _ _,fun _=>hw▸h⟩
 by_cases h1:1000 < l.length
 ·have hv:qpyu kind l=4:=by unfold qpyu;rw[if_pos h1]
  rw[hv]
  exact(qs4j A c h1).mono fun e w' ⟨he,hw⟩=>⟨he,hw▸World.grownBy.refl _ _,fun h=>by cases h⟩
 ·obtain⟨g,i,rfl,hg⟩:=hl.addr h0
  exact qyea g i c l h hi hj hl hg (hgb g i rfl h0) (by omega) hc ok
theorem qirc(kind:Int)(A:Option Addr)(n c:Nat)(l:List Pr)(w:World)(hi:-9223372036854775808≤kind)(hj:kind≤9223372036854775807)(hl:PL w A l)(hn:l.length=n)(hc:n≤c)(ok:∀p∈l,PrOk p) :
 Calls Try.prog 20 #[.int .i64 kind,.slice A n c] w fun e w'=>e = .returned (.int .i64 ((qpyu kind l:Nat):Int))∧Below w.heap.size w w':=by
 have MS:=Lib.hid (fun W b mb (h:TalL W b mb kind []) hP hg=>q2yl (w:=W) (b:=b) (mb:=mb) A n c l h hi hj hP hg hn hc ok)
 have HL:=Lib.hid hl
 generalize qpyu kind l=V at *
 generalize hT:(if V=0 then(q636 l).length else 0:Nat)=T at *
 clear hT hn hc ok hl
 go_enter Try.func20,Try.ntmps20
 go_wp2_with fail
 refine(qkou kind w).mono ?_
 rintro e w1 ⟨b,mb,rfl,ht,hb,hb2,hm2⟩
 have M1:=Lib.hid (MS.out w1 b mb ⟨0,ht,q6mr.nil⟩ (HL.out.below hb) (fun g i e hne=>by
  obtain⟨g',i',e',hg'⟩:=HL.out.addr hne
  rw[e] at e'
  cases e'
  omega))
 have HB:=Lib.hid hb
 have B2:=Lib.hid hb2
 clear ht hb hm2 hb2 MS HL
 go_wp2_with fail
 refine(M1.out).mono ?_
 rintro e w2 ⟨rfl,hg,_⟩
 have HG:=Lib.hid (HB.out.trans (qwrj hg HB.out.size B2.out))
 clear hg
 go_wp2_with fail
 go_ret
 exact⟨rfl,HG.out⟩
theorem q7g5(p:Pk):qo3o 5 p=qiby p:=rfl
theorem qo99(p:Pk):qo3o 4 p={qiby p with code:=0,props:=[]}:=rfl
theorem qf43(v:Int)(p:Pk):(versC v&&qvya p.kind&&decide (0 < p.id)&&decide (p.id≤65535)&&mayR p.kind p.code&&decide (p=qo3o v p))=okA v p:=by
 unfold okA
 have hd:decide ((0:Int) < p.id)=decide (1≤p.id):=by congr 1
 rw[hd]
 by_cases h5:v=5
 ·subst h5
  rw[q7g5]
  rw[show((5:Int)==4)=false from rfl,Bool.false_and,Bool.not_false,Bool.and_true]
  generalize decide (p=qiby p)=a
  generalize mayR p.kind p.code=b
  generalize decide (1≤p.id)=c
  generalize decide (p.id≤65535)=d
  generalize (versC 5&&qvya p.kind)=x
  cases a<;>cases b<;>cases c<;>cases d<;>cases x<;>rfl
 ·by_cases h4:v=4
  ·subst h4
   have e:decide (p=qo3o 4 p)=(decide (p=qiby p)&&!((4:Int)==4&&!(p.code==0&&p.props.isEmpty))):=by
    rw[qo99]
    rw[Bool.eq_iff_iff]
    simp only[decide_eq_true_eq,Bool.and_eq_true,Bool.not_eq_true',beq_self_eq_true,Bool.true_and,Bool.not_eq_false',beq_iff_eq,List.isEmpty_iff]
    constructor
    ·intro h
     have h1:p.code=0:=by rw[h]
     have h2:p.props=[]:=by rw[h]
     refine⟨?_,h1,h2⟩
     conv=>lhs;rw[h]
     simp only[qiby,h1,h2]
    ·rintro⟨h,h1,h2⟩
     conv=>lhs;rw[h]
     simp only[qiby,h1,h2]
   rw[e]
   generalize decide (p=qiby p)=a
   generalize mayR p.kind p.code=b
   generalize decide (1≤p.id)=c
   generalize decide (p.id≤65535)=d
   generalize (versC 4&&qvya p.kind)=x
   generalize (!((4:Int)==4&&!(p.code==0&&p.props.isEmpty)))=y
   cases a<;>cases b<;>cases c<;>cases d<;>cases x<;>cases y<;>rfl
  ·have:versC v=false:=by simp[versC,h4,h5]
   simp[this]
theorem q3sg(v:Int)(p:Pk)(a:Ad)(w:World)(hp:PkAt w p a)(sp:q21o p):Calls Try.prog 19 #[.int .i64 v,.agg (pkC p a)] w fun e w'=>e = .returned (.bool (okA v p))∧Below w.heap.size w w':=by
 have S0:=Lib.hid (BxS.made w p a)
 have C1:=Lib.hid (qwmp p a)
 have KN:=Lib.hid (fun V (h:BxS w p a V)=>(qnzz v p.kind V).mono fun e W' (hh:_∧V=W')=>(⟨hh.1,hh.2▸h⟩:_∧BxS w p a W'))
 have MA:=Lib.hid (fun V (h:BxS w p a V)=>(qeiz p.kind p.code V).mono fun e W' hh=>(⟨hh.1,h.call hh.2⟩:_∧BxS w p a W'))
 have US:=Lib.hid (fun V (h:BxS w p a V)=>(qbym v p a V).mono fun e W' hh=>(⟨hh.1,h.call hh.2⟩:_∧BxS w p a W'))
 have SM:=Lib.hid (fun V (h:BxS w p a V)=>(qyk8 p (qo3o v p) a (qi8p v a) V (hp.below h.low) (qvqb v (hp.below h.low)) sp (q9mw v sp)).mono fun e W' hh=>(⟨hh.1,h.call hh.2⟩:_∧BxS w p a W'))
 have FI:=Lib.hid (qf43 v p)
 generalize okA v p=R at *
 generalize mayR p.kind p.code=m at *
 generalize decide (p=qo3o v p)=s at *
 clear hp sp
 go_enter Try.func19,Try.ntmps19
 go_upto_region 1 with fail
 refine qm47 (S:=BxS w p a) (B:=w.heap.size) (k:=p.kind) (i:=p.id) (c:=p.code) (C:=pkC p a) (D:=pkC (qo3o v p) (qi8p v a)) (m:=m) (s:=s) S0.out.draw C1.out (fun W h=>h.box) (fun W h=>h.cell 0) (fun W h=>h.cell 4) (fun W h=>h.cell 21) KN.out MA.out US.out SM.out ?_
 intro r W hr h
 rw[FI.out] at hr
 subst hr
 have LO:=Lib.hid h.low
 clear h
 intros
 go_wp2_with fail
 go_ret
 exact⟨rfl,LO.out⟩
theorem qat7(v:Int)(p:Pk)(a:Ad)(w:World)(hp:PkAt w p a)(sp:q21o p)(ok:PkOk p)(hc:p.props.length≤a.pc):Calls Try.prog 11 #[.int .i64 v,.agg (pkC p a)] w fun e w'=>e = .returned (.int .i64 (qryp v p:Nat))∧Below w.heap.size w w':=by
 have S0:=Lib.hid (BxS.made w p a)
 have C1:=Lib.hid (qwmp p a)
 have FI:=Lib.hid (fun W (h:BxS w p a W)=>q3sg v p a W (hp.below h.low) sp)
 have VA:=fun W (h:BxS w p a W)=>qirc p.kind a.ps p.props.length a.pc p.props W ok.kind.1 ok.kind.2 (hp.below h.low).ps rfl hc (fun x hx=>(ok.pps x hx).1)
 have k0:=fun W (h:BxS w p a W)=>(h.cell 0:W.cell? ⟨w.heap.size,0,none⟩=some (.int .i64 p.kind))
 have k24:=fun W (h:BxS w p a W)=>(h.cell 24:W.cell? ⟨w.heap.size,24,none⟩=some (.slice a.ps p.props.length a.pc))
 have K0:=Lib.hid (And.intro k0 k24)
 clear k0 k24
 unfold qryp
 cases ho:okA v p with
 | false=>
  rw[ho] at FI
  rw[if_pos rfl]
  clear hp sp ok hc VA ho
  go_enter Try.func11,Try.ntmps11
  go_wp2_with (refine wpList_load_row rfl _ _ rfl w.heap.size rfl 30 _ (0,0) _ S0.out.box Try.underlying30 rfl (by rw[C1.out];exact q5nr) ?_)
  refine(FI.out _ S0.out).mono ?_
  rintro e W ⟨rfl,hb⟩
  have LO:=Lib.hid (qxh2 S0.out.low hb)
  clear hb
  go_wp2_with fail
  go_ret
  exact⟨rfl,LO.out⟩
 | true=>
  rw[ho] at FI
  rw[if_neg (by decide)]
  have hv:qpyu p.kind p.props=qfk9 v p.kind p.props:=by
   obtain⟨h45,_,_,h4,_⟩:=ok_a ho
   unfold qfk9
   by_cases h5:v=5
   ·rw[if_pos h5]
   ·rw[if_neg h5,(h4 (by omega)).2];rfl
  rw[hv] at VA
  generalize qfk9 v p.kind p.props=q at *
  have VA:=Lib.hid VA
  clear hp sp ok hc ho hv
  go_enter Try.func11,Try.ntmps11
  go_wp2_with (refine wpList_load_row rfl _ _ rfl w.heap.size rfl 30 _ (0,0) _ S0.out.box Try.underlying30 rfl (by rw[C1.out];exact q5nr) ?_)
  refine(FI.out _ S0.out).mono ?_
  rintro e W ⟨rfl,hb⟩
  have S1:=Lib.hid (S0.out.call hb)
  have k0:W.cell? ⟨w.heap.size,0,none⟩=some (.int .i64 p.kind):=K0.out.1 W S1.out
  have k24:W.cell? ⟨w.heap.size,24,none⟩=some (.slice a.ps p.props.length a.pc):=K0.out.2 W S1.out
  clear hb S0
  go_wp2_with fail
  refine(VA.out _ S1.out).mono ?_
  rintro e W2 ⟨rfl,hb⟩
  have LO:=Lib.hid (S1.out.call hb).low
  clear hb
  go_wp2_with fail
  go_ret
  exact⟨rfl,LO.out⟩
end Go.Proofs.Ytbklidpadffpgaa
