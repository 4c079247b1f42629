/- The contracts of prop.measure at any list, and of prop.Valid. Condition: the fields of each property are what their types hold. -/
import Derived.Test.YtbklidpadffpgaaK45
namespace Go.Proofs.Ytbklidpadffpgaa
open Go.RowKit
theorem qwrj{B b:Nat}{W W':World}(hg:W.grownBy W' (some b))(hB:B≤W.heap.size)(hr:B≤b):Below B W W':=
 ⟨hg.os,hg.tape,hg.output,hg.size,fun k hk=>hg.block k (Nat.lt_of_lt_of_le hk hB) (fun e=>by have:=Option.some.inj e;omega)⟩
theorem qb0w{w:World}{b mb:Nat}{kind:Int}(A:Option Addr)(c:Nat)(h:TalL w b mb kind []) :
 Calls Try.prog 26 #[.pointer (some ⟨b,0,none⟩),.slice A 0 c] w fun e w'=>e = .returned (.tuple #[.int .i64 0,.int .i64 0])∧w=w':=by
 have EN:=qtn3 h
 change Calls _ _ _ _ (fun e w'=>e=Ending.returned (.int .i64 0)∧_) at EN
 have EN:=Lib.hid EN
 go_enter Try.func26,Try.ntmps26
 go_wp2_with fail
 refine wp_loop_rounds 1 ?_
 rw[rounds_succ]
 go_wp2_with fail
 refine(EN.out).mono ?_
 rintro e w2 ⟨rfl,rfl⟩
 go_wp2_with fail
 go_ret2
 exact⟨rfl,rfl⟩
theorem qs4j{w:World}{b n:Nat}(A:Option Addr)(c:Nat)(hn:1000 < n) :
 Calls Try.prog 26 #[.pointer (some ⟨b,0,none⟩),.slice A n c] w fun e w'=>e = .returned (.tuple #[.int .i64 0,.int .i64 4])∧w=w':=by
 have h:(1000:Int) < (n:Int):=by omega
 clear hn
 go_enter Try.func26,Try.ntmps26
 go_wp2_with fail
 go_ret2
 exact⟨rfl,rfl⟩
theorem q2yl{w:World}{b mb:Nat}{kind:Int}(A:Option Addr)(n c:Nat)(l:List Pr)(h:TalL w b mb kind [])(hi:-9223372036854775808≤kind)(hj:kind≤9223372036854775807)(hl:PL w A l)(hgb:∀g i,A=some ⟨g,i,none⟩→l≠[]→g≠b)(hn:l.length=n)(hc:n≤c)(ok:∀p∈l,PrOk p) :
 Calls Try.prog 26 #[.pointer (some ⟨b,0,none⟩),.slice A n c] w fun e w'=>
  e = .returned (.tuple #[.int .i64 ((if qpyu kind l=0 then(q636 l).length else 0:Nat):Int),.int .i64 ((qpyu kind l:Nat):Int)])∧w.grownBy w' (some b)∧(qpyu kind l=0→TalL w' b mb kind l):=by
 subst hn
 by_cases h0:l=[]
 ·subst h0
  exact(qb0w A c h).mono fun e w' ⟨he,hw⟩=>⟨he,hw▸World.grownBy.refl _ _,fun _=>hw▸h⟩
 by_cases h1:1000 < l.length
 ·have hv:qpyu kind l=4:=by unfold qpyu;rw[if_pos h1]
  rw[hv]
  exact(qs4j A c h1).mono fun e w' ⟨he,hw⟩=>⟨he,hw▸World.grownBy.refl _ _,fun h=>by cases h⟩
 ·obtain⟨g,i,rfl,hg⟩:=hl.addr h0
  exact qyea g i c l h hi hj hl hg (hgb g i rfl h0) (by omega) hc ok
theorem qirc(kind:Int)(A:Option Addr)(n c:Nat)(l:List Pr)(w:World)(hi:-9223372036854775808≤kind)(hj:kind≤9223372036854775807)(hl:PL w A l)(hn:l.length=n)(hc:n≤c)(ok:∀p∈l,PrOk p) :
 Calls Try.prog 20 #[.int .i64 kind,.slice A n c] w fun e w'=>e = .returned (.int .i64 ((qpyu kind l:Nat):Int))∧Below w.heap.size w w':=by
 have MS:=Lib.hid (fun W b mb (h:TalL W b mb kind []) hP hg=>q2yl (w:=W) (b:=b) (mb:=mb) A n c l h hi hj hP hg hn hc ok)
 have HL:=Lib.hid hl
 generalize qpyu kind l=V at *
 generalize hT:(if V=0 then(q636 l).length else 0:Nat)=T at *
 clear hT hn hc ok hl
 go_enter Try.func20,Try.ntmps20
 go_wp2_with fail
 refine(qkou kind w).mono ?_
 rintro e w1 ⟨b,mb,rfl,ht,hb,hb2,hm2⟩
 have M1:=Lib.hid (MS.out w1 b mb ⟨0,ht,q6mr.nil⟩ (HL.out.below hb) (fun g i e hne=>by
  obtain⟨g',i',e',hg'⟩:=HL.out.addr hne
  rw[e] at e'
  cases e'
  omega))
 have HB:=Lib.hid hb
 have B2:=Lib.hid hb2
 clear ht hb hm2 hb2 MS HL
 go_wp2_with fail
 refine(M1.out).mono ?_
 rintro e w2 ⟨rfl,hg,_⟩
 have HG:=Lib.hid (HB.out.trans (qwrj hg HB.out.size B2.out))
 clear hg
 go_wp2_with fail
 go_ret
 exact⟨rfl,HG.out⟩
end Go.Proofs.Ytbklidpadffpgaa
