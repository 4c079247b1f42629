/- What prop.Bytes gathers: the strings that are joined, and what stands meanwhile. No condition. -/
import Derived.Deep.AppendLies
import Derived.OwnWalk
import Derived.Deep.QuietTactic
import Derived.WalkSmall
import Derived.Deep.DeepCutAuto
import Derived.Maps.AppendAt
import Derived.Test.YtbecggefmbpnoaaGreatDoorK32
import Derived.Test.YtbecggefmbpnoaaGreatDoorK14
import Derived.Test.YtbecggefmbpnoaaGreatDoorK33
import Derived.Test.YtbecggefmbpnoaaGreatDoorK13
import Derived.Test.YtbecggefmbpnoaaGreatDoorK08
import Derived.Test.YtbecggefmbpnoaaGreatDoorK07
import Derived.Test.YtbecggefmbpnoaaGreatDoorK17
import Derived.Test.YtbecggefmbpnoaaGreatDoorK11
import Derived.Test.YtbecggefmbpnoaaGreatDoorK19
set_option maxHeartbeats 4000000
set_option maxRecDepth 100000
namespace Go.Proofs.YtbecggefmbpnoaaGreatDoor
open Go.RowKit
open Go.RowKit Go.Shelf
theorem qx89:(Tryz.prog.info? 9).map (fun i=>(i.zero,i.size,i.bytes))=some (some (.string .empty),1,16):=by kernel_rfl
def qxd1(L:List UInt8)(l:List Pr):List (List UInt8):=L::l.flatMap fun p=>[be p.id.toNat 1,qgdb p]
theorem qhci(L:List UInt8)(l:List Pr)(p:Pr):qxd1 L (l++[p])=qxd1 L l++[be p.id.toNat 1,qgdb p]:=by simp[qxd1]
theorem qwyw(L:List UInt8):∀(l:List Pr),(qxd1 L l).length=1+2*l.length
 | []=>rfl
 | p::l=>by
  have:=qwyw L l
  unfold qxd1 at this ⊢
  rw[List.length_cons] at this
  rw[List.length_cons,List.flatMap_cons,List.length_append,List.length_cons]
  simp only[List.length_cons,List.length_nil]
  omega
theorem qwu8(n:Nat):be n 1=[UInt8.ofNat n]:=by simp[be]
theorem q3ez(L:List UInt8)(l:List Pr):(qxd1 L l).flatten=L++q636 l:=by
 unfold qxd1
 rw[List.flatten_cons]
 congr 1
 induction l with
 | nil=>rfl
 | cons p l ih=>
  rw[List.flatMap_cons,List.flatten_append,ih,qhx5]
  congr 1
  simp[oneP,qwu8]
theorem q528(a b:List (List UInt8)):strs (a++b)=strs a++strs b:=by simp[strs]
theorem q3yi(ls:List (List UInt8)):Lib.join ls []=ls.flatten:=by
 cases ls with
 | nil=>rfl
 | cons a r=>
  rw[Lib.join_cons]
  unfold Lib.joinTail
  simp
theorem qzs0(g i c:Nat)(ls:List (List UInt8))(w:World)(hcell:∀j,j < ls.length→w.cell? ⟨g,i+j,none⟩=some (.string (bs (ls.getD j []))))(hg:g < w.heap.size)(hc:ls.length≤c)(hl:ls.flatten.length≤4000000000)(hN:ls.length≤4000000000) :
 Calls Tryz.prog 108 #[.slice (some ⟨g,i,none⟩) ls.length c,.string ⟨#[]⟩] w fun e w'=>e = .returned (.string (bs ls.flatten))∧Below w.heap.size w w':=by
 have e1:(ls.map bs).map (·.data.toList)=ls:=by rw[List.map_map];simp[Function.comp_def,qkd1]
 have:=Any.strings_Join qsyr q4jg g i c (ls.map bs) ⟨#[]⟩ w (fun j x hx=>by
  have hj:j < ls.length:=by
   have:=(List.getElem?_eq_some_iff.1 hx).1
   simpa using this
  rw[hcell j hj]
  rw[List.getElem?_map,List.getElem?_eq_getElem hj] at hx
  simp only[Option.map_some,Option.some.injEq] at hx
  rw[←hx]
  simp[List.getD,List.getElem?_eq_getElem hj]) hg (by simp;omega) (by simp;omega) (by rw[e1];show(Lib.join ls []).length≤_;rw[q3yi];omega)
 rw[e1,List.length_map] at this
 have e2:Lib.join ls (ByteArray.mk #[]).data.toList=ls.flatten:=q3yi ls
 rw[e2] at this
 exact this
def ByS(w3:World)(b mb v:Nat)(kind:Int)(p:Pr)(l:List Pr)(W:World):Prop:=
 W.cell? ⟨v,0,none⟩=some (.int .i64 p.id)∧W.cell? ⟨v,1,none⟩=some (.int .u32 p.n)∧W.cell? ⟨v,2,none⟩=some (.string (bs p.text))∧W.cell? ⟨v,3,none⟩=some (.string (bs p.value))∧
 W.cell? ⟨b,1,none⟩=some (.map (some mb))∧
 (Instr.lookup 134 (.map (some mb)) (.int .i64 p.id) false).run Tryz.prog W = .ok (.agg #[.int .i64 (qwgc p.id:Nat),.int .u32 (qavf p.id:Nat),.int .u32 ((prow p.id).least:Nat)]) W∧
 (qrxu W v p∧TalL W b mb kind l∧Below w3.heap.size w3 W∧PrOk p∧b < w3.heap.size∧mb < w3.heap.size∧w3.heap.size≤v)
section
variable{w3 W W':World}{b mb v:Nat}{kind:Int}{p:Pr}{l:List Pr}
theorem ByS.mk(ok:PrOk p)(h1:qrxu W v p)(h2:TalL W b mb kind l)(h3:Below w3.heap.size w3 W)(hb:b < w3.heap.size)(hm:mb < w3.heap.size)(hv:w3.heap.size≤v):ByS w3 b mb v kind p l W:=by
 obtain⟨s,t1,t2⟩:=h2
 exact⟨h1.c0,h1.c1,h1.c2,h1.c3,t1.c1,t1.2.look ok.lo ok.hi,h1,⟨s,t1,t2⟩,h3,ok,hb,hm,hv⟩
theorem ByS.call(h:ByS w3 b mb v kind p l W)(hb:Below W.heap.size W W'):ByS w3 b mb v kind p l W':=by
 obtain⟨_,_,_,_,_,_,h1,h2,h3,ok,k1,k2,k3⟩:=h
 exact ByS.mk ok (h1.below hb h1.lt) (h2.below hb) (h3.trans (hb.mono h3.size)) k1 k2 k3
theorem ByS.alloc(h:ByS w3 b mb v kind p l W)(o:Obj):ByS w3 b mb v kind p l (W.alloc o):=h.call ((Below.refl _ _).alloc (Nat.le_refl _) _)
theorem ByS.drew(h:ByS w3 b mb v kind p l W):ByS w3 b mb v kind p l W.drew:=by
 obtain⟨_,_,_,_,_,_,h1,h2,h3,ok,k1,k2,k3⟩:=h
 exact ByS.mk ok h1 (h2.draws 1) h3.drew k1 k2 k3
theorem ByS.app(h:ByS w3 b mb v kind p l W){r:Option Nat}(hg:W.grownBy W' r)(hr:∀k,r=some k→w3.heap.size≤k∧k < v):ByS w3 b mb v kind p l W':=by
 obtain⟨_,_,_,_,_,_,h1,⟨s,t1,t2⟩,h3,ok,k1,k2,k3⟩:=h
 refine ByS.mk ok (h1.of_block (hg.block v h1.lt (fun e=>by have:=(hr v e.symm).2;omega))) ⟨s,t1.of_block (hg.block b t1.lt (fun e=>by have:=(hr b e.symm).1;omega)) (hg.block mb t1.mlt (fun e=>by have:=(hr mb e.symm).1;omega)),t2⟩ ?_ k1 k2 k3
 exact h3.grown hg h3.size (fun k e=>(hr k e).1)
end
theorem ByS.base{w3 W:World}{b mb v:Nat}{kind:Int}{p:Pr}{l:List Pr}(h:ByS w3 b mb v kind p l W)(o:Obj):w3.heap.size≤(W.alloc o).heap.size:=by
 have:=h.2.2.2.2.2.2.2.2.1.size
 rw[World.size_alloc]
 omega
theorem qzd3{W W':World}{base:Nat}{e:TypeId}{size n:Nat}{v:Value}{xs:List Value}(h:W.ownsRow base e size v n xs)(hb:Below W.heap.size W W'):W'.ownsRow base e size v n xs:=by
 refine⟨h.1,?_⟩
 rcases h.2 with h2 | ⟨g,cap,cur,hv,h3,hg,h4⟩
 ·exact .inl h2
 ·exact .inr ⟨g,cap,cur,hv,h3,(hb.block g (Array.getElem?_eq_some_iff.1 hg).1).trans hg,h4⟩
open Go.RowKit Go.Shelf
theorem qaeq(kind:Int)(A:Option Addr)(n c:Nat)(l:List Pr)(w:World)(hi:-9223372036854775808≤kind)(hj:kind≤9223372036854775807)(hl:PL w A l)(hn:l.length=n)(hc:n≤c)(ok:∀p∈l,PrOk p)(hv:qpyu kind l≠0) :
 Calls Tryz.prog 77 #[.int .i64 kind,.slice A n c] w fun e w'=>e = .returned (.tuple #[.string ⟨#[]⟩,.int .i64 ((qpyu kind l:Nat):Int)])∧Below w.heap.size w w':=by
 have MS:=Lib.hid (fun W b mb (h:TalL W b mb kind []) hP hg=>q2yl (w:=W) (b:=b) (mb:=mb) A n c l h hi hj hP hg hn hc ok)
 have HL:=Lib.hid hl
 generalize qpyu kind l=V at *
 generalize hT:(if V=0 then(q636 l).length else 0:Nat)=T at *
 have g1:((V:Int)==0)=false:=by simp;omega
 have g2:((V:Int) != 0)=true:=by simp;omega
 clear hT hn hc ok hl hv
 go_enter Tryz.func77,Tryz.ntmps77
 go_wp2_with fail
 refine(qkou kind w).mono ?_
 rintro e w1 ⟨b,mb,rfl,ht,hb,hb2,hm2⟩
 have M1:=Lib.hid (MS.out w1 b mb ⟨0,ht,q6mr.nil⟩ (HL.out.below hb) (fun g i e hne=>by
  obtain⟨g',i',e',hg'⟩:=HL.out.addr hne
  rw[e] at e'
  cases e'
  omega))
 have HB:=Lib.hid hb
 have B2:=Lib.hid hb2
 clear ht hb hm2 hb2 MS HL
 go_wp2_with fail
 refine(M1.out).mono ?_
 rintro e w2 ⟨rfl,hg,_⟩
 have HG:=Lib.hid (HB.out.trans (qwrj hg HB.out.size B2.out))
 clear hg
 go_wp2_with fail
 go_ret2
 exact⟨rfl,HG.out⟩
theorem qmlz(kind:Int)(A:Option Addr)(n c:Nat)(l:List Pr)(w:World)(hi:-9223372036854775808≤kind)(hj:kind≤9223372036854775807)(hl:PL w A l)(hn:l.length=n)(hc:n≤c)(ok:∀p∈l,PrOk p)(hv:qpyu kind l=0) :
 Calls Tryz.prog 77 #[.int .i64 kind,.slice A n c] w fun e w'=>e = .returned (.tuple #[.string (bs (vb (q636 l).length (sz (q636 l).length)++q636 l)),.int .i64 0])∧Below w.heap.size w w':=by
 obtain⟨v1,v2,v3,v4⟩:=qpfx hv
 have MS:=fun W b mb (h:TalL W b mb kind []) hP hg=>q2yl (w:=W) (b:=b) (mb:=mb) A n c l h hi hj hP hg hn hc ok
 rw[hv,if_pos rfl] at MS
 have MS:=Lib.hid MS
 have HL:=Lib.hid hl
 have HN:=Lib.hid hn
 have OK:=Lib.hid ok
 have VB:=fun W=>quvo (q636 l).length W v4
 obtain⟨L,hL⟩:∃L,vb (q636 l).length (sz (q636 l).length)=L:=⟨_,rfl⟩
 rw[hL] at VB ⊢
 have hres:=q3ez L l
 rw[←hres]
 have hn3:(qxd1 L l).length=1+2*n:=by rw[qwyw,hn]
 have hfl:(qxd1 L l).flatten.length≤268435459:=by
  rw[hres,List.length_append,←hL,q8sw]
  have:=qnl4 (q636 l).length v4
  omega
 have VB:=Lib.hid VB
 have hn2:(n:Int)≤1000:=by omega
 have H3:=Lib.hid hn3
 have HF:=Lib.hid hfl
 have CK:=Lib.hid (show ∀p∈l,qr4y kind p=0 from fun p hp=>((qrcn kind l).1 v2).1 p hp)
 have V1:=Lib.hid v1
 obtain⟨i0,hii,hz0,hz1,hz2⟩:=info_parts qx89
 clear hn ok hl hv v1 v2 v3 v4 hres hn3 hfl hL
 go_enter Tryz.func77,Tryz.ntmps77
 go_wp2_with fail
 refine(qkou kind w).mono ?_
 rintro e w1 ⟨b,mb,rfl,ht,hb,hb2,hm2⟩
 have M1:=Lib.hid (MS.out w1 b mb ⟨0,ht,q6mr.nil⟩ (HL.out.below hb) (fun g i e hne=>by
  obtain⟨g',i',e',hg'⟩:=HL.out.addr hne
  rw[e] at e'
  cases e'
  omega))
 have HB:=Lib.hid hb
 have B2:=Lib.hid hb2
 clear ht hb hm2 hb2 MS
 go_wp2_with fail
 refine(M1.out).mono ?_
 rintro e w2 ⟨rfl,hg,ht2⟩
 have TL:=Lib.hid (ht2 (by simp))
 have HG:=Lib.hid (HB.out.trans (qwrj hg HB.out.size B2.out))
 clear hg ht2 M1 HB B2
 go_wp2_with fail
 refine(VB.out _).mono ?_
 rintro e w3 ⟨rfl,hb3⟩
 have T3:=Lib.hid (TL.out.below hb3)
 have G3:=Lib.hid (HG.out.trans (hb3.mono HG.out.size))
 have L3:=Lib.hid (HL.out.below G3.out)
 clear hb3 TL HG HL VB
 have hbm:=Lib.hid T3.out.lt
 go_wp2_with fail
 go_loopg [34,11] n (fun gk s34 s11 wx=>∃k:Nat,k≤n∧gk=n - k∧s34 = .int .i64 (k:Int)∧Below w3.heap.size w3 wx∧wx.ownsRow w3.heap.size 9 1 s11 (1+2*k) (strs (qxd1 L (l.take k))))
 case atStart=>
  exact⟨0,Nat.zero_le _,rfl,rfl,(Below.refl _ _).alloc (Nat.le_refl _) _,by simp[strs,qxd1],.inr ⟨_,1,_,rfl,Nat.le_refl _,heap_alloc_new _ _,Nat.le_refl _,by decide,rfl,by simp[strs,qxd1]⟩⟩
 case round=>
  obtain⟨k,hk,hgk,rfl,hB,hO⟩:=hrel
  by_cases hlt:k < n
  ·have hkl:k < l.length:=by rw[HN.out];exact hlt
   obtain⟨p,hp⟩:∃p,l[k]? = some p:=⟨_,List.getElem?_eq_getElem hkl⟩
   obtain⟨g,i,e',hg',c0,c1,c2,c3⟩:=((L3.out.kept hB.size (fun g i e h=>hB.block g h))).at hp
   subst e'
   have g1:(k:Int) < (n:Int):=by omega
   have okp:=OK.out p (List.mem_of_getElem? hp)
   have ckp:=CK.out p (List.mem_of_getElem? hp)
   have hid:=qilb (qo1o ckp).1
   have htk:l.take (k+1)=l.take k++[p]:=by rw[List.take_add_one,hp];rfl
   obtain⟨q,hq⟩:∃q:Nat,p.id.toNat=q:=⟨_,rfl⟩
   have HP:=Lib.hid (show strs (qxd1 L (l.take k))++[.string (bs (be q 1)),.string (bs (qgdb p))]=strs (qxd1 L (l.take (k+1))) by rw[htk,qhci,q528,hq];rfl)
   have hw:IntKind.u64.wrap p.id=((q:Nat):Int):=by simp only[IntKind.wrap_u64];omega
   have PU:=fun W=>qe3g q 1 W (by omega)
   rw[show(min (1:Int) 16).toNat=1 by decide] at PU
   have PU1:=Lib.hid PU
   have VA:=fun W=>qs7s p W okp ckp
   unfold qbhk at VA
   have VA1:=Lib.hid VA
   have hOB:=hO.lt
   have HB2:=Lib.hid hB
   have hS:ByS w3 b mb wr.heap.size kind p l (wr.alloc (.cells #[.int .i64 p.id,.int .u32 p.n,.string (bs p.text),.string (bs p.value)] 81)).drew:=
    (ByS.mk okp (qrxu.made wr p) ((T3.out.below hB).alloc _) (hB.alloc hB.size _) hbm.out.1 hbm.out.2 hB.size).drew
   have hO2:(wr.alloc (.cells #[.int .i64 p.id,.int .u32 p.n,.string (bs p.text),.string (bs p.value)] 81)).drew.ownsRow w3.heap.size 9 1 u11 (1+2*k) (strs (qxd1 L (l.take k))):=(hO.alloc _).drew
   have FD:=qyw9 (qwgc p.id) (qavf p.id) (prow p.id).least
   unfold q3al at FD
   have h63:1+2*k+2≤maxLen:=by unfold maxLen;omega
   have hby:(1+2*k+2)*16≤140737488355328:=by omega
   have hone:∀u∈[Value.string (bs (be q 1)),Value.string (bs (qgdb p))],u.oneCell'=true:=by simp[Value.oneCell']
   clear PU VA hid htk hO hB okp ckp hq
   go_wp2_with fail
   go_region_held3 (fun w'=>w'.cell? ⟨wr.heap.size,0,none⟩=some (.int .i64 p.id)∧w'.cell? ⟨wr.heap.size,1,none⟩=some (.int .u32 p.n)∧w'.cell? ⟨wr.heap.size,2,none⟩=some (.string (bs p.text))∧w'.cell? ⟨wr.heap.size,3,none⟩=some (.string (bs p.value))∧w'.cell? ⟨b,1,none⟩=some (.map (some mb))∧
    (Instr.lookup 134 (.map (some mb)) (.int .i64 p.id) false).run Tryz.prog w' = .ok (.agg #[.int .i64 (qwgc p.id:Nat),.int .u32 (qavf p.id:Nat),.int .u32 ((prow p.id).least:Nat)]) w'∧
    (qrxu w' wr.heap.size p∧TalL w' b mb kind l∧Below w3.heap.size w3 w'∧PrOk p∧b < w3.heap.size∧mb < w3.heap.size∧w3.heap.size≤wr.heap.size))
    (first | exact hS | exact ByS.alloc hS _ | exact ByS.app (ByS.alloc hS _) hgrow hOB)
    (first
     | (go_at_call 31;with_reducible refine(PU1.out _).mono ?_;rintro e w4 ⟨rfl,hb⟩;have hS:=hS.call hb;have hO2:=qzd3 hO2 hb;clear hb)
     | (go_at_call 107;with_reducible refine(VA1.out _).mono ?_;rintro e w4 ⟨rfl,hb⟩;have hS:=hS.call hb;have hO2:=qzd3 hO2 hb;clear hb)
     | (refine step_append_lies _ (by rfl) _ _ _ (by rfl) w3.heap.size 9 i0 _ 1 16 Tryz.underlying52 hii hz0 hz1 hz2 rfl (by decide) u11 (1+2*k) (strs (qxd1 L (l.take k))) (by rfl) (hO2.alloc _) ⟨_,0,none⟩ 2 2 [.string (bs (be q 1)),.string (bs (qgdb p))] (by rfl) (by rfl) (World.news_of_block (cs:=#[.string (bs (be q 1)),.string (bs (qgdb p))]) (t:=9) (fr:=(0,0)) (heap_alloc_new _ _)) hone (by decide) h63 hby (ByS.base hS _) _ rfl ?_;intro gg cap w5 hown1 hgrow hat hlt))
   all_goals
    have hS2:=(ByS.app (ByS.alloc hS _) hgrow hOB).2.2.2.2.2.2.2.2.1
    rw[HP.out] at hown1
    have HB5:=Lib.hid hS2
    have HO5:=Lib.hid hown1
    rename_i hHeld
    clear h63 hby hone hHeld hS hS2 hown1 hO2 hgrow hat hOB
    go_wp2_with fail
    go_roundg (n - (k+1))
    case measure=>omega
    case rel=>exact⟨k+1,by omega,rfl,by go_num,HB5.out,by have:=HO5.out;rwa [show 1+2*k+2=1+2*(k+1) by omega] at this⟩
  ·obtain rfl:k=n:=by omega
   have ht1:l.take k=l:=List.take_of_length_le (by rw[HN.out];omega)
   rw[ht1] at hO
   have hlen:=H3.out
   obtain⟨g,cap,cur,hv,hbg,hg,hcap,_,_,hcur⟩:∃(g cap:Nat) (cur:Array Value),u11 = .slice (some ⟨g,0,none⟩) (1+2*k) cap∧w3.heap.size≤g∧wr.heap[g]? = some (.cells cur 9 (0,0))∧1+2*k≤cap∧cap≤maxLen∧cur.size=cap*1∧List.take ((1+2*k)*1) cur.toList=strs (qxd1 L l):=by
    rcases hO.2 with ⟨_,h0⟩ | ⟨g,cap,cur,h⟩
    ·omega
    ·exact⟨g,cap,cur,h⟩
   subst hv
   have JN:=qzs0 g 0 cap (qxd1 L l) wr (fun j hj=>by
    rw[Nat.zero_add,cell_of_row wr g j cur _ _ hg]
    have e1:(strs (qxd1 L l))[j]? = some (.string (bs ((qxd1 L l).getD j []))):=by
     unfold strs
     rw[List.getElem?_map,List.getElem?_eq_getElem hj]
     simp[List.getD,List.getElem?_eq_getElem hj]
    rw[←hcur,List.getElem?_take_of_lt (by omega)] at e1
    simpa using e1) (lt_of_block hg) (by omega) (by have:=HF.out;omega) (by omega)
   rw[hlen] at JN
   have JN1:=Lib.hid JN
   have HW:=Lib.hid (G3.out.trans (hB.mono G3.out.size))
   clear JN hO hcur hg hbg hB ht1
   go_wp2_with fail
   refine(JN1.out).mono ?_
   rintro e w6 ⟨rfl,hb6⟩
   have HW2:=Lib.hid (HW.out.trans (hb6.mono HW.out.size))
   clear hb6
   go_wp2_with fail
   go_ret2
   exact⟨rfl,HW2.out⟩
theorem qs01(kind:Int)(A:Option Addr)(n c:Nat)(l:List Pr)(w:World)(hi:-9223372036854775808≤kind)(hj:kind≤9223372036854775807)(hl:PL w A l)(hn:l.length=n)(hc:n≤c)(ok:∀p∈l,PrOk p) :
 Calls Tryz.prog 77 #[.int .i64 kind,.slice A n c] w fun e w'=>e = .returned (.tuple #[.string (bs (q5aq kind l).1),.int .i64 ((q5aq kind l).2:Nat)])∧Below w.heap.size w w':=by
 unfold q5aq
 by_cases hv:qpyu kind l=0
 ·rw[if_neg (by simp[hv])]
  exact qmlz kind A n c l w hi hj hl hn hc ok hv
 ·rw[if_pos hv]
  exact qaeq kind A n c l w hi hj hl hn hc ok hv
end Go.Proofs.YtbecggefmbpnoaaGreatDoor
namespace Go.Proofs.YtbecggefmbpnoaaGreatDoor
open Go.RowKit
theorem qyte:(Tryz.prog.info? 3).map (fun i=>(i.zero,i.size,i.bytes))=some (some (.int .i64 0),1,8):=by kernel_rfl
theorem qot5(A:Option Addr)(n c:Nat)(l:List Int)(w:World)(ha:CL w A (ics l))(hn:l.length=n)(hl:n≤2000) :
 Calls Tryz.prog 52 #[.slice A n c] w fun e w'=>∃v,e = .returned v∧w'.ownsRow w.heap.size 3 1 v n (ics l)∧Below w.heap.size w w':=by
 subst hn
 obtain⟨i0,hi,hz0,hz1,hz2⟩:=info_parts qyte
 cases A with
 | none=>
  have hnil:l=[]:=by
   cases l with
   | nil=>rfl
   | cons x l=>obtain⟨g,i,e,_⟩:=ha (by simp[ics]);cases e
  subst hnil
  clear ha
  go_enter Tryz.func52,Tryz.ntmps52
  go_wp2_with fail
  go_ret
  exact⟨_,rfl,World.ownsRow_made w #[] 0 (Nat.le_refl _) (by decide) rfl,(Below.refl _ _).alloc (Nat.le_refl _) _⟩
 | some a=>
  have SRC:=Lib.hid (show ∀j u,(ics l)[j]? = some u→(w.alloc (.cells #[] 3)).cell? (a.add j)=some u from fun j u hu=>by
   obtain⟨g,i,e,hg,hc⟩:=ha (by intro e;rw[e] at hu;cases hu)
   cases e
   rw[show(⟨g,i,none⟩:Addr).add j=⟨g,i+j,none⟩ from Addr.add_lit g i j,World.cell?_alloc_old _ _ _ (Nat.ne_of_lt hg)]
   exact hc j u hu)
  have HL:=Lib.hid hl
  clear ha hl
  go_enter Tryz.func52,Tryz.ntmps52
  go_wp2_with (at_builtin;refine wpList_append_own _ rfl _ _ 26 rfl w.heap.size 3 i0 (.int .i64 0) 1 8 Tryz.underlying26 hi hz0 hz1 hz2 rfl (by decide) _ 0 [] rfl (World.ownsRow_made w #[] 0 (Nat.le_refl _) (by decide) rfl) a l.length c (ics l) rfl (by rw[ql3l,Nat.mul_one]) SRC.out (qceb l) (by have:=HL.out;simp only[maxLen];omega) (by have:=HL.out;omega) (by simp) ?_;intro v' w1 hown hgrow _)
  go_ret
  rw[Nat.zero_add,List.nil_append] at hown
  refine⟨_,rfl,hown,⟨hgrow.os,hgrow.tape,hgrow.output,by have:=hgrow.size;simp at this;omega,fun k hk=>?_⟩⟩
  rw[hgrow.block k (by rw[World.size_alloc];omega) (fun e=>by have e2:k=w.heap.size:=Option.some.inj e;omega)]
  exact(Below.heap_alloc w _ k hk)
theorem q7zn:(Tryz.prog.info? 32).map (fun i=>(i.zero,i.size,i.bytes))=some (some (.agg #[.string .empty,.int .i64 0,.bool false,.bool false,.int .i64 0]),5,40):=by kernel_rfl
theorem qk6n(A:Option Addr)(n c:Nat)(l:List Fi)(w:World)(ha:CL w A (fcs l))(hn:l.length=n)(hl:n≤2000) :
 Calls Tryz.prog 29 #[.slice A n c] w fun e w'=>∃v,e = .returned v∧w'.ownsRow w.heap.size 32 5 v n (fcs l)∧Below w.heap.size w w':=by
 subst hn
 obtain⟨i0,hi,hz0,hz1,hz2⟩:=info_parts q7zn
 cases A with
 | none=>
  have hnil:l=[]:=by
   cases l with
   | nil=>rfl
   | cons x l=>obtain⟨g,i,e,_⟩:=ha (by simp[fcs,quk6]);cases e
  subst hnil
  clear ha
  go_enter Tryz.func29,Tryz.ntmps29
  go_wp2_with fail
  go_ret
  exact⟨_,rfl,World.ownsRow_made w #[] 0 (Nat.le_refl _) (by decide) rfl,(Below.refl _ _).alloc (Nat.le_refl _) _⟩
 | some a=>
  have SRC:=Lib.hid (show ∀j u,(fcs l)[j]? = some u→(w.alloc (.cells #[] 32)).cell? (a.add j)=some u from fun j u hu=>by
   obtain⟨g,i,e,hg,hc⟩:=ha (by intro e;rw[e] at hu;cases hu)
   cases e
   rw[show(⟨g,i,none⟩:Addr).add j=⟨g,i+j,none⟩ from Addr.add_lit g i j,World.cell?_alloc_old _ _ _ (Nat.ne_of_lt hg)]
   exact hc j u hu)
  have HL:=Lib.hid hl
  clear ha hl
  go_enter Tryz.func29,Tryz.ntmps29
  go_wp2_with (at_builtin;refine wpList_append_own _ rfl _ _ 27 rfl w.heap.size 32 i0 (.agg #[.string .empty,.int .i64 0,.bool false,.bool false,.int .i64 0]) 5 40 Tryz.underlying27 hi hz0 hz1 hz2 rfl (by decide) _ 0 [] rfl (World.ownsRow_made w #[] 0 (Nat.le_refl _) (by decide) rfl) a l.length c (fcs l) rfl (q4av l) SRC.out (qpp4 l) (by have:=HL.out;simp only[maxLen];omega) (by have:=HL.out;omega) (by simp) ?_;intro v' w1 hown hgrow _)
  go_ret
  rw[Nat.zero_add,List.nil_append] at hown
  refine⟨_,rfl,hown,⟨hgrow.os,hgrow.tape,hgrow.output,by have:=hgrow.size;simp at this;omega,fun k hk=>?_⟩⟩
  rw[hgrow.block k (by rw[World.size_alloc];omega) (fun e=>by have e2:k=w.heap.size:=Option.some.inj e;omega)]
  exact(Below.heap_alloc w _ k hk)
theorem qvch:(Tryz.prog.info? 81).map (fun i=>(i.zero,i.size,i.bytes))=some (some (.agg #[.int .i64 0,.int .u32 0,.string .empty,.string .empty]),4,48):=by kernel_rfl
theorem qi9z(A:Option Addr)(c:Nat)(w:World) :
 Calls Tryz.prog 53 #[.slice A 0 c] w fun e w'=>∃v,e = .returned v∧w'.ownsRow w.heap.size 81 4 v 0 (pcs [])∧Below w.heap.size w w':=by
 obtain⟨i0,hi,hz0,hz1,hz2⟩:=info_parts qvch
 cases A with
 | none=>
  go_enter Tryz.func53,Tryz.ntmps53
  go_wp2_with fail
  go_ret
  exact⟨_,rfl,World.ownsRow_made w #[] 0 (Nat.le_refl _) (by decide) rfl,(Below.refl _ _).alloc (Nat.le_refl _) _⟩
 | some a=>
  go_enter Tryz.func53,Tryz.ntmps53
  go_wp2_with (at_builtin;refine wpList_append_own _ rfl _ _ 23 rfl w.heap.size 81 i0 (.agg #[.int .i64 0,.int .u32 0,.string .empty,.string .empty]) 4 48 Tryz.underlying23 hi hz0 hz1 hz2 rfl (by decide) _ 0 [] rfl (World.ownsRow_made w #[] 0 (Nat.le_refl _) (by decide) rfl) a 0 c (pcs []) rfl (qv9d []) (fun j u hu=>by simp[pcs] at hu) (qtvz []) (by decide) (by decide) (by simp) ?_;intro v' w1 hown hgrow _)
  go_ret
  rw[Nat.zero_add,List.nil_append] at hown
  refine⟨_,rfl,hown,⟨hgrow.os,hgrow.tape,hgrow.output,by have:=hgrow.size;simp at this;omega,fun k hk=>?_⟩⟩
  rw[hgrow.block k (by rw[World.size_alloc];omega) (fun e=>by have e2:k=w.heap.size:=Option.some.inj e;omega)]
  exact(Below.heap_alloc w _ k hk)
theorem q5pb(g i c:Nat)(l:List Pr)(w:World)(ha:PL w (some ⟨g,i,none⟩) l)(hl:l.length≤2000) :
 Calls Tryz.prog 53 #[.slice (some ⟨g,i,none⟩) l.length c] w fun e w'=>∃v,e = .returned v∧w'.ownsRow w.heap.size 81 4 v l.length (pcs l)∧Below w.heap.size w w':=by
 obtain⟨i0,hi,hz0,hz1,hz2⟩:=info_parts qvch
 have src:∀j u,(pcs l)[j]? = some u→(w.alloc (.cells #[] 81)).cell? ((⟨g,i,none⟩:Addr).add j)=some u:=fun j u hu=>by
  have hj:j < l.length*4:=by
   have:=(List.getElem?_eq_some_iff.1 hu).1
   rwa [qv9d] at this
  obtain⟨p,hp⟩:∃p,l[j / 4]? = some p:=⟨_,List.getElem?_eq_getElem (by omega)⟩
  obtain⟨g',i',e',hg,a0,a1,a2,a3⟩:=ha.at hp
  cases e'
  have e1:j=j / 4*4+j%4:=by omega
  have hq:(pcs l)[j]? = (pc p)[j%4]? := by
   have:=qsrc l (j / 4) (j%4) p hp (by omega)
   rwa [←e1] at this
  rw[hu] at hq
  have hadd:(⟨g,i,none⟩:Addr).add j=⟨g,i+j,none⟩:=Addr.add_lit g i j
  rw[hadd,World.cell?_alloc_old _ _ _ (Nat.ne_of_lt hg)]
  have hr:j%4=0∨j%4=1∨j%4=2∨j%4=3:=by omega
  rcases hr with h | h | h | h
  ·rw[h] at hq;rw[show i+j=i+j / 4*4 by omega,a0];exact hq.symm
  ·rw[h] at hq;rw[show i+j=i+j / 4*4+1 by omega,a1];exact hq.symm
  ·rw[h] at hq;rw[show i+j=i+j / 4*4+2 by omega,a2];exact hq.symm
  ·rw[h] at hq;rw[show i+j=i+j / 4*4+3 by omega,a3];exact hq.symm
 have SRC:=Lib.hid src
 have HL:=Lib.hid hl
 clear src ha hl
 go_enter Tryz.func53,Tryz.ntmps53
 go_wp2_with (at_builtin;refine wpList_append_own _ rfl _ _ 23 rfl w.heap.size 81 i0 (.agg #[.int .i64 0,.int .u32 0,.string .empty,.string .empty]) 4 48 Tryz.underlying23 hi hz0 hz1 hz2 rfl (by decide) _ 0 [] rfl (World.ownsRow_made w #[] 0 (Nat.le_refl _) (by decide) rfl) ⟨g,i,none⟩ l.length c (pcs l) rfl (qv9d l) SRC.out (qtvz l) (by have:=HL.out;simp only[maxLen];omega) (by have:=HL.out;omega) (by simp) ?_;intro v' w1 hown hgrow _)
 go_ret
 rw[Nat.zero_add,List.nil_append] at hown
 refine⟨_,rfl,hown,⟨hgrow.os,hgrow.tape,hgrow.output,by have:=hgrow.size;simp at this;omega,fun k hk=>?_⟩⟩
 rw[hgrow.block k (by rw[World.size_alloc];omega) (fun e=>by have e2:k=w.heap.size:=Option.some.inj e;omega)]
 exact(Below.heap_alloc w _ k hk)
theorem q56q(A:Option Addr)(n c:Nat)(l:List Pr)(w:World)(ha:PL w A l)(hn:l.length=n)(hl:n≤2000) :
 Calls Tryz.prog 53 #[.slice A n c] w fun e w'=>∃v,e = .returned v∧w'.ownsRow w.heap.size 81 4 v n (pcs l)∧Below w.heap.size w w':=by
 subst hn
 by_cases h:l=[]
 ·subst h
  exact qi9z A c w
 ·obtain⟨g,i,rfl,_⟩:=ha.addr h
  exact q5pb g i c l w ha hl
structure OwS(w:World)(p:Pk)(a:Ad)(x:OwG)(W:World):Prop where
 low:Below w.heap.size w W
 box:W.heap[w.heap.size]? = some (.cells (pkC p (qnt6 a x)) 29 (0,0))
 res:W.heap[w.heap.size+1]? = some (.cells pkZ 29 (0,0))
 l0:2≤x.s 0→CL W (x.A 0) (ics p.codes)∧p.codes.length≤x.c 0∧∀g i,x.A 0=some ⟨g,i,none⟩→w.heap.size+1 < g
 l1:2≤x.s 1→CL W (x.A 1) (fcs p.filters)∧p.filters.length≤x.c 1∧∀g i,x.A 1=some ⟨g,i,none⟩→w.heap.size+1 < g
 l2:2≤x.s 2→PL W (x.A 2) p.props∧p.props.length≤x.c 2∧∀g i,x.A 2=some ⟨g,i,none⟩→w.heap.size+1 < g
 l3:2≤x.s 3→PL W (x.A 3) p.wProps∧p.wProps.length≤x.c 3∧∀g i,x.A 3=some ⟨g,i,none⟩→w.heap.size+1 < g
section
variable{w W W':World}{p:Pk}{a:Ad}{x:OwG}
theorem CL.other{A:Option Addr}{cs:List Value}(h:CL W A cs)(b j:Nat)(u:Value)(hne:∀g i,A=some ⟨g,i,none⟩→b < g):CL (W.setCell ⟨b,j,none⟩ u) A cs:=
 h.kept (q99v W b j u).size fun g i e _=>heap_setCell_other W ⟨b,j,none⟩ g u (by have:=hne g i e;show g≠b;omega)
theorem PL.other{A:Option Addr}{l:List Pr}(h:PL W A l)(b j:Nat)(u:Value)(hne:∀g i,A=some ⟨g,i,none⟩→b < g):PL (W.setCell ⟨b,j,none⟩ u) A l:=
 h.kept (q99v W b j u).size fun g i e _=>heap_setCell_other W ⟨b,j,none⟩ g u (by have:=hne g i e;show g≠b;omega)
theorem OwS.below(h:OwS w p a x W)(hb:Below W.heap.size W W'):OwS w p a x W':=
 ⟨qxh2 h.low hb,(hb.block _ (lt_of_block h.box)).trans h.box,(hb.block _ (lt_of_block h.res)).trans h.res,
  fun e=>⟨(h.l0 e).1.below hb,(h.l0 e).2⟩,fun e=>⟨(h.l1 e).1.below hb,(h.l1 e).2⟩,fun e=>⟨(h.l2 e).1.below hb,(h.l2 e).2⟩,fun e=>⟨(h.l3 e).1.below hb,(h.l3 e).2⟩⟩
theorem OwS.made(w:World)(p:Pk)(a:Ad):OwS w p a OwG.none ((w.alloc (.cells (pkC p a) 29)).alloc (.cells pkZ 29)):=
 ⟨qxh2 (qybm _) (qybm _),heap_alloc2_old _ _ _,heap_alloc2_new _ _ _,fun e=>absurd e (by decide),fun e=>absurd e (by decide),fun e=>absurd e (by decide),fun e=>absurd e (by decide)⟩
theorem OwS.load(h:OwS w p a x W){k:Nat}(hk:k < 4)(hs:x.s k=0):OwS w p a (x.to k 1) W:=by
 have hn:∀i,2≤(x.to k 1).s i→2≤x.s i:=fun i hi=>by
  unfold OwG.to at hi
  by_cases e:i=k
  ·subst e;simp at hi
  ·simpa [e] using hi
 have ha:qnt6 a (x.to k 1)=qnt6 a x:=by
  obtain rfl | rfl | rfl | rfl:k=0∨k=1∨k=2∨k=3:=by omega
  all_goals simp[qnt6,OwG.to,hs]
 exact⟨h.low,by rw[ha];exact h.box,h.res,fun e=>h.l0 (hn 0 e),fun e=>h.l1 (hn 1 e),fun e=>h.l2 (hn 2 e),fun e=>h.l3 (hn 3 e)⟩
theorem qdsl(a:Ad)(x:OwG)(k:Nat)(A:Option Addr)(c:Nat)(hs:x.s k=1):qnt6 a (x.got k A c)=qnt6 a x:=by
 unfold qnt6 OwG.got
 by_cases e0:0=k
 ·subst e0;simp[hs]
 by_cases e1:1=k
 ·subst e1;simp[hs]
 by_cases e2:2=k
 ·subst e2;simp[hs]
 by_cases e3:3=k
 ·subst e3;simp[hs]
 simp[e0,e1,e2,e3]
theorem OwS.store0(h:OwS w p a x W)(hs:x.s 0=2):OwS w p a (x.to 0 3) (W.setCell ⟨w.heap.size,22,none⟩ (.slice (x.A 0) p.codes.length (x.c 0))):=
 ⟨qo4g h.low (Nat.le_refl _),qv6p h.box (by simp[pkC,qnt6,OwG.to]),(heap_setCell_other W ⟨w.heap.size,22,none⟩ _ _ (by show w.heap.size+1≠w.heap.size;omega)).trans h.res,
  fun _=>⟨(h.l0 (by omega)).1.other _ _ _ (fun g i e=>by have:=(h.l0 (by omega)).2.2 g i e;omega),(h.l0 (by omega)).2⟩,
  fun e=>⟨(h.l1 e).1.other _ _ _ (fun g i f=>by have:=(h.l1 e).2.2 g i f;omega),(h.l1 e).2⟩,fun e=>⟨(h.l2 e).1.other _ _ _ (fun g i f=>by have:=(h.l2 e).2.2 g i f;omega),(h.l2 e).2⟩,fun e=>⟨(h.l3 e).1.other _ _ _ (fun g i f=>by have:=(h.l3 e).2.2 g i f;omega),(h.l3 e).2⟩⟩
theorem OwS.store1(h:OwS w p a x W)(hs:x.s 1=2):OwS w p a (x.to 1 3) (W.setCell ⟨w.heap.size,23,none⟩ (.slice (x.A 1) p.filters.length (x.c 1))):=
 ⟨qo4g h.low (Nat.le_refl _),qv6p h.box (by simp[pkC,qnt6,OwG.to]),(heap_setCell_other W ⟨w.heap.size,23,none⟩ _ _ (by show w.heap.size+1≠w.heap.size;omega)).trans h.res,
  fun e=>⟨(h.l0 e).1.other _ _ _ (fun g i f=>by have:=(h.l0 e).2.2 g i f;omega),(h.l0 e).2⟩,
  fun _=>⟨(h.l1 (by omega)).1.other _ _ _ (fun g i e=>by have:=(h.l1 (by omega)).2.2 g i e;omega),(h.l1 (by omega)).2⟩,
  fun e=>⟨(h.l2 e).1.other _ _ _ (fun g i f=>by have:=(h.l2 e).2.2 g i f;omega),(h.l2 e).2⟩,fun e=>⟨(h.l3 e).1.other _ _ _ (fun g i f=>by have:=(h.l3 e).2.2 g i f;omega),(h.l3 e).2⟩⟩
theorem OwS.store2(h:OwS w p a x W)(hs:x.s 2=2):OwS w p a (x.to 2 3) (W.setCell ⟨w.heap.size,24,none⟩ (.slice (x.A 2) p.props.length (x.c 2))):=
 ⟨qo4g h.low (Nat.le_refl _),qv6p h.box (by simp[pkC,qnt6,OwG.to]),(heap_setCell_other W ⟨w.heap.size,24,none⟩ _ _ (by show w.heap.size+1≠w.heap.size;omega)).trans h.res,
  fun e=>⟨(h.l0 e).1.other _ _ _ (fun g i f=>by have:=(h.l0 e).2.2 g i f;omega),(h.l0 e).2⟩,fun e=>⟨(h.l1 e).1.other _ _ _ (fun g i f=>by have:=(h.l1 e).2.2 g i f;omega),(h.l1 e).2⟩,
  fun _=>⟨(h.l2 (by omega)).1.other _ _ _ (fun g i e=>by have:=(h.l2 (by omega)).2.2 g i e;omega),(h.l2 (by omega)).2⟩,
  fun e=>⟨(h.l3 e).1.other _ _ _ (fun g i f=>by have:=(h.l3 e).2.2 g i f;omega),(h.l3 e).2⟩⟩
theorem OwS.store3(h:OwS w p a x W)(hs:x.s 3=2):OwS w p a (x.to 3 3) (W.setCell ⟨w.heap.size,19,none⟩ (.slice (x.A 3) p.wProps.length (x.c 3))):=
 ⟨qo4g h.low (Nat.le_refl _),qv6p h.box (by simp[pkC,qnt6,OwG.to]),(heap_setCell_other W ⟨w.heap.size,19,none⟩ _ _ (by show w.heap.size+1≠w.heap.size;omega)).trans h.res,
  fun e=>⟨(h.l0 e).1.other _ _ _ (fun g i f=>by have:=(h.l0 e).2.2 g i f;omega),(h.l0 e).2⟩,fun e=>⟨(h.l1 e).1.other _ _ _ (fun g i f=>by have:=(h.l1 e).2.2 g i f;omega),(h.l1 e).2⟩,
  fun e=>⟨(h.l2 e).1.other _ _ _ (fun g i f=>by have:=(h.l2 e).2.2 g i f;omega),(h.l2 e).2⟩,
  fun _=>⟨(h.l3 (by omega)).1.other _ _ _ (fun g i e=>by have:=(h.l3 (by omega)).2.2 g i e;omega),(h.l3 (by omega)).2⟩⟩
end
def q981(w:World)(p:Pk)(e:Ending)(W:World):Prop:=
 ∃a:Ad,e = .returned (.agg (pkC p a))∧PkAt W p a∧(p.props.length≤a.pc∧p.wProps.length≤a.wc)∧Below w.heap.size w W
theorem qzxl(p:Pk)(a:Ad)(w:World)(hp:PkAt w p a)(h1:p.codes.length≤2000)(h2:p.filters.length≤2000)(h3:p.props.length≤2000)(h4:p.wProps.length≤2000) :
 Calls Tryz.prog 18 #[.agg (pkC p a)] w (q981 w p):=by
 have S0:=Lib.hid (OwS.made w p a)
 have O0:=fun(x:OwG) W (h:OwS w p a x W) (hs:x.s 0=1)=>(qot5 a.cs p.codes.length a.cc p.codes W (hp.below h.low).cs rfl h1).mono fun e W' hh=>(show ∃A c,e = .returned (.slice A p.codes.length c)∧OwS w p a (x.got 0 A c) W' by
  obtain⟨v,he,ho,hb⟩:=hh
  obtain⟨A,c,rfl,hc,hC,hg⟩:=CL.owned ho (by rw[ql3l,Nat.mul_one])
  have k:=h.below hb
  have hlt:=lt_of_block h.res
  exact⟨A,c,he,k.low,by rw[qdsl _ _ _ _ _ hs];exact k.box,k.res,fun _=>⟨hC,hc,fun g i e=>by have:=hg g i e;omega⟩,fun e=>k.l1 e,fun e=>k.l2 e,fun e=>k.l3 e⟩)
 have O1:=fun(x:OwG) W (h:OwS w p a x W) (hs:x.s 1=1)=>(qk6n a.fs p.filters.length a.fc p.filters W (hp.below h.low).fs rfl h2).mono fun e W' hh=>(show ∃A c,e = .returned (.slice A p.filters.length c)∧OwS w p a (x.got 1 A c) W' by
  obtain⟨v,he,ho,hb⟩:=hh
  obtain⟨A,c,rfl,hc,hC,hg⟩:=CL.owned ho (by rw[q4av])
  have k:=h.below hb
  have hlt:=lt_of_block h.res
  exact⟨A,c,he,k.low,by rw[qdsl _ _ _ _ _ hs];exact k.box,k.res,fun e=>k.l0 e,fun _=>⟨hC,hc,fun g i e=>by have:=hg g i e;omega⟩,fun e=>k.l2 e,fun e=>k.l3 e⟩)
 have O2:=fun(x:OwG) W (h:OwS w p a x W) (hs:x.s 2=1)=>(q56q a.ps p.props.length a.pc p.props W (hp.below h.low).ps rfl h3).mono fun e W' hh=>(show ∃A c,e = .returned (.slice A p.props.length c)∧OwS w p a (x.got 2 A c) W' by
  obtain⟨v,he,ho,hb⟩:=hh
  obtain⟨A,c,rfl,hc,hC,hg⟩:=PL.owned ho rfl
  have k:=h.below hb
  have hlt:=lt_of_block h.res
  exact⟨A,c,he,k.low,by rw[qdsl _ _ _ _ _ hs];exact k.box,k.res,fun e=>k.l0 e,fun e=>k.l1 e,fun _=>⟨hC,hc,fun g i e=>by have:=hg g i e;omega⟩,fun e=>k.l3 e⟩)
 have O3:=fun(x:OwG) W (h:OwS w p a x W) (hs:x.s 3=1)=>(q56q a.w p.wProps.length a.wc p.wProps W (hp.below h.low).w rfl h4).mono fun e W' hh=>(show ∃A c,e = .returned (.slice A p.wProps.length c)∧OwS w p a (x.got 3 A c) W' by
  obtain⟨v,he,ho,hb⟩:=hh
  obtain⟨A,c,rfl,hc,hC,hg⟩:=PL.owned ho rfl
  have k:=h.below hb
  have hlt:=lt_of_block h.res
  exact⟨A,c,he,k.low,by rw[qdsl _ _ _ _ _ hs];exact k.box,k.res,fun e=>k.l0 e,fun e=>k.l1 e,fun e=>k.l2 e,fun _=>⟨hC,hc,fun g i e=>by have:=hg g i e;omega⟩⟩)
 have HZ:=Lib.hid qbwp
 have hzv:=qrai
 have hne:¬pkZ=#[]:=by intro h;have:=qbwp;rw[h] at this;cases this
 have O0:=Lib.hid O0
 have O1:=Lib.hid O1
 have O2:=Lib.hid O2
 have O3:=Lib.hid O3
 clear hp h1 h2 h3 h4
 go_enter Tryz.func18,Tryz.ntmps18
 go_upto_region 1 with fail
 refine qc1g (S:=fun x W=>OwS w p a x W) (b:=w.heap.size) (p:=p) (a:=a) (S0.out.below (by exact(Below.refl _ _).drew)) (fun x w h=>h.box) (fun k x w hk h hs=>h.load hk hs) O0.out (fun x w h hs=>h.store0 hs) O1.out (fun x w h hs=>h.store1 hs) O2.out (fun x w h hs=>h.store2 hs) O3.out (fun x w h hs=>h.store3 hs) ?_
 intro x W hS hs
 have hA:PkAt W p (qnt6 a x):=by
  unfold qnt6
  rw[if_pos hs.1,if_pos hs.2.1,if_pos hs.2.2.1,if_pos hs.2.2.2]
  simp only[if_pos hs.1,if_pos hs.2.1,if_pos hs.2.2.1,if_pos hs.2.2.2]
  exact⟨(hS.l3 (by omega)).1,(hS.l0 (by omega)).1,(hS.l1 (by omega)).1,(hS.l2 (by omega)).1⟩
 have hC:p.props.length≤(qnt6 a x).pc∧p.wProps.length≤(qnt6 a x).wc:=by
  unfold qnt6
  simp only[if_pos hs.2.2.1,if_pos hs.2.2.2]
  exact⟨(hS.l2 (by omega)).2.1,(hS.l3 (by omega)).2.1⟩
 have hG:(∀g i,(qnt6 a x).w=some ⟨g,i,none⟩→w.heap.size+1 < g)∧(∀g i,(qnt6 a x).cs=some ⟨g,i,none⟩→w.heap.size+1 < g)∧(∀g i,(qnt6 a x).fs=some ⟨g,i,none⟩→w.heap.size+1 < g)∧(∀g i,(qnt6 a x).ps=some ⟨g,i,none⟩→w.heap.size+1 < g):=by
  unfold qnt6
  simp only[if_pos hs.1,if_pos hs.2.1,if_pos hs.2.2.1,if_pos hs.2.2.2]
  exact⟨(hS.l3 (by omega)).2.2,(hS.l0 (by omega)).2.2,(hS.l1 (by omega)).2.2,(hS.l2 (by omega)).2.2⟩
 have GB:=hS.box
 generalize qnt6 a x=b at *
 have hE1:=qwmp p b
 have hE2:=qmz0 p b
 have RT:q981 w p (.returned (.agg (pkC p b))) (W.setRow (w.heap.size+1) (pkC p b)):=by
  have hr:=fun(A:Option Addr) (hg:∀g i,A=some ⟨g,i,none⟩→w.heap.size+1 < g)=>(fun g i e (_:g < W.heap.size)=>setRow_other W (w.heap.size+1) g (pkC p b) (by have:=hg g i e;omega):∀g i,A=some ⟨g,i,none⟩→g < W.heap.size→(W.setRow (w.heap.size+1) (pkC p b)).heap[g]? = W.heap[g]?)
  have hz:W.heap.size≤(W.setRow (w.heap.size+1) (pkC p b)).heap.size:=by simp[World.setRow]
  exact⟨b,rfl,⟨hA.w.kept hz (hr _ hG.1),hA.cs.kept hz (hr _ hG.2.1),hA.fs.kept hz (hr _ hG.2.2.1),hA.ps.kept hz (hr _ hG.2.2.2)⟩,hC,q8xz hS.low (by omega) _⟩
 obtain⟨E,hE⟩:∃E,pkC p b=E:=⟨_,rfl⟩
 rw[hE] at hE1 hE2 GB RT
 have GR:=Lib.hid hS.res
 have HE1:=Lib.hid hE1
 have HE2:=Lib.hid hE2
 have GB:=Lib.hid GB
 have RT:=Lib.hid RT
 clear hE1 hE2 hE hS hs hA hC hG O0 O1 O2 O3 S0
 go_wp2_with (first
  | (refine wpList_load_row rfl _ _ rfl w.heap.size rfl 29 E (0,0) _ GB.out Tryz.underlying29 rfl (by rw[HE1.out];exact q5nr) ?_)
  | (refine wpList_store_row rfl _ _ _ rfl (w.heap.size+1) E rfl rfl 29 _ GR.out (by rw[HE1.out];exact q5nr) (by rw[HZ.out,HE1.out]) HE2.out ?_))
 exact q7wi (cs:=E) rfl rfl rfl Tryz.underlying29 rfl (by rw[HE1.out];exact q5nr) (setRow_heap _ _ _ _ _ _ GR.out) RT.out
end Go.Proofs.YtbecggefmbpnoaaGreatDoor
namespace Go.Proofs.YtbecggefmbpnoaaGreatDoor
open Go.RowKit Go.Shelf
def SbAt(b:Nat)(l:List UInt8)(W:World):Prop:=Lib.IsBuilder 60 5 b b (Lib.byteCells l) W
theorem SbAt.lt{b:Nat}{l:List UInt8}{W:World}(h:SbAt b l W):b < W.heap.size:=by
 rcases h with h | h<;>exact h.lt
theorem SbAt.made(w:World):SbAt w.heap.size [] (w.alloc (.cells #[.pointer none,.slice none 0 0] 60)):=
 .inl ⟨Nat.le_refl _,_,heap_alloc_new _ _,⟨rfl,.inl ⟨rfl,rfl⟩⟩,by simp[Value.ownBlock]⟩
theorem SbAt.call{b:Nat}{l:List UInt8}{W W':World}(h:SbAt b l W)(hb:Below W.heap.size W W'):SbAt b l W':=by
 have each:∀p,Lib.BuilderAt 60 5 b b p (Lib.byteCells l) W→Lib.BuilderAt 60 5 b b p (Lib.byteCells l) W':=fun p h=>by
  have hlt:=h.lt
  obtain⟨h1,v,h2,h3,h4⟩:=h
  exact⟨h1,v,(hb.block b hlt).trans h2,qzd3 h3 hb,h4⟩
 rcases h with h | h
 ·exact .inl (each _ h)
 ·exact .inr (each _ h)
theorem qb36:Go.Proofs.Lays.n166 Tryz.prog qdrb:={qsyr with}
theorem qqfh:Go.Proofs.Lays.n169 Tryz.prog qdrb:={qsyr with}
theorem q6cc(b:Nat)(l m:List UInt8)(W:World)(h:SbAt b l W)(hl:l.length+m.length≤140737488355328) :
 Calls Tryz.prog 30 #[.pointer (some ⟨b,0,none⟩),.string (bs m)] W fun e W'=>e = .returned (.tuple #[.int .i64 (m.length:Nat),.nilIface])∧SbAt b (l++m) W'∧Below b W W':=by
 have c:=Any.Builder_WriteString qb36 q4jg b b (Lib.byteCells l) (bs m) W h (by rw[Lib.byteCells_length,q5zk];exact hl) (Nat.le_of_lt h.lt)
 refine c.mono fun e W' ⟨h1,h2,h3⟩=>⟨?_,.inr ?_,h3⟩
 ·rw[h1,q5zk]
 ·rw[Lib.byteCells_append];exact h2
theorem q0vh(b:Nat)(l:List UInt8)(W:World)(h:SbAt b l W) :
 Calls Tryz.prog 34 #[.pointer (some ⟨b,0,none⟩)] W fun e W'=>e = .returned (.string (bs l))∧Below b W W':=
 Any.Builder_String_any qqfh q4jg b b l W h (Nat.le_of_lt h.lt)
end Go.Proofs.YtbecggefmbpnoaaGreatDoor
namespace Go.Proofs.YtbecggefmbpnoaaGreatDoor
open Go.RowKit
theorem q58f{W W':World}{base n size:Nat}{t:TypeId}{v:Value}{xs:List Value}(h:W.ownsRow base t size v n xs)(hg:W.grownBy W' v.ownBlock)(hb:base≤W.heap.size):Below base W W':=by
 rcases h.2 with ⟨rfl,_⟩ | ⟨g,cap,cur,rfl,hbg,_⟩
 ·exact⟨hg.os,hg.tape,hg.output,hg.size,fun k hk=>hg.block k (Nat.lt_of_lt_of_le hk hb) (fun e=>by cases e)⟩
 ·exact qwrj hg hb hbg
theorem PL.cells{W:World}{g i:Nat}{l:List Pr}(h:PL W (some ⟨g,i,none⟩) l):∀j u,(pcs l)[j]? = some u→W.cell? ((⟨g,i,none⟩:Addr).add j)=some u:=fun j u hu=>by
 have hj:j < l.length*4:=by
  have:=(List.getElem?_eq_some_iff.1 hu).1
  rwa [qv9d] at this
 obtain⟨p,hp⟩:∃p,l[j / 4]? = some p:=⟨_,List.getElem?_eq_getElem (by omega)⟩
 obtain⟨g',i',e',hg,a0,a1,a2,a3⟩:=h.at hp
 cases e'
 have e1:j=j / 4*4+j%4:=by omega
 have hq:(pcs l)[j]? = (pc p)[j%4]? := by
  have:=qsrc l (j / 4) (j%4) p hp (by omega)
  rwa [←e1] at this
 rw[hu] at hq
 rw[Addr.add_lit g i j]
 have hr:j%4=0∨j%4=1∨j%4=2∨j%4=3:=by omega
 rcases hr with h | h | h | h
 ·rw[h] at hq;rw[show i+j=i+j / 4*4 by omega,a0];exact hq.symm
 ·rw[h] at hq;rw[show i+j=i+j / 4*4+1 by omega,a1];exact hq.symm
 ·rw[h] at hq;rw[show i+j=i+j / 4*4+2 by omega,a2];exact hq.symm
 ·rw[h] at hq;rw[show i+j=i+j / 4*4+3 by omega,a3];exact hq.symm
theorem qyqq{W:World}{v:Value}{base nA g i m c:Nat}{L M:List Pr}(ty:TypeId)(hown:W.ownsRow base 81 4 v nA (pcs L))(hM:PL W (some ⟨g,i,none⟩) M)(hm:M.length=m)(hn:nA+m≤3000)(hb:base≤W.heap.size) :
 ∃v' w',(Builtin.append_ #[23,23] ty #[v,.slice (some ⟨g,i,none⟩) m c]).run Tryz.prog W = .ok v' w'∧w'.ownsRow base 81 4 v' (nA+m) (pcs (L++M))∧Below base W w':=by
 obtain⟨i0,hi,hz0,hz1,hz2⟩:=info_parts qvch
 obtain⟨v',w',hr,h2,h3,_,_⟩:=run_append_own_at (P:=Tryz.prog) W base 23 ty 81 i0 (.agg #[.int .i64 0,.int .u32 0,.string .empty,.string .empty]) 4 48 Tryz.underlying23 hi hz0 hz1 hz2 rfl (by decide) v nA (pcs L) hown ⟨g,i,none⟩ m c (pcs M) (by rw[qv9d,hm]) hM.cells (qtvz M) (by simp only[maxLen];omega) (by omega) hb
 rw[←qdoo] at h2
 exact⟨v',w',hr,h2,q58f hown h3 hb⟩
theorem q2qx{P:Program}{W:World}{o:Oper}{a:Act}{K:Act→World→Prop}{Q:Exit→Act→World→Prop}(s x:Operand)(t:TypeId)
 (ho:o.op = .call {callee := .builtin .append,args:=#[s,x],argTypes:=#[t,t]}) {v sl v':Value} {w':World} (hs:a.eval s=v) (hx:a.eval x=sl)
 (hr:(Builtin.append_ #[t,t] o.type #[v,sl]).run P W = .ok v' w') (h:K (a.put o.dst v') w'):o.wp P a W K Q:=by
 unfold Oper.wp execOp
 simp only[ho,resolve,invoke,builtin,Sem.run_bind,Sem.run_pure,Result.andThen_ok,List.map_toArray,List.map_cons,List.map_nil,hs,hx,hr]
 exact h
theorem qvgk{W:World}{o:Oper}{a:Act}{K:Act→World→Prop}{Q:Exit→Act→World→Prop}(s x:Operand)
 (ho:o.op = .call {callee := .builtin .append,args:=#[s,x],argTypes:=#[23,23]})
 {v:Value} {base nA g i m c:Nat} {L M:List Pr} (hs:a.eval s=v) (hx:a.eval x = .slice (some ⟨g,i,none⟩) m c) (hown:W.ownsRow base 81 4 v nA (pcs L)) (hM:PL W (some ⟨g,i,none⟩) M) (hm:M.length=m) (hn:nA+m≤3000) (hb:base≤W.heap.size)
 (h:∀v' w',w'.ownsRow base 81 4 v' (nA+m) (pcs (L++M))→Below base W w'→K (a.put o.dst v') w'):o.wp Tryz.prog a W K Q:=by
 obtain⟨v',w',hr,h2,h3⟩:=qyqq o.type hown hM hm hn hb
 exact q2qx s x _ ho hs hx hr (h v' w' h2 h3)
end Go.Proofs.YtbecggefmbpnoaaGreatDoor
