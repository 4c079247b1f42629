/- What prop.Bytes gathers: the strings that are joined, and what stands meanwhile. No condition. -/
import Derived.Deep.AppendLies
import Derived.Test.YtefmhbioggcfaaaGreatDoorK24
import Derived.Test.YtefmhbioggcfaaaGreatDoorK25
set_option maxHeartbeats 4000000
set_option maxRecDepth 100000
namespace Go.Proofs.YtefmhbioggcfaaaGreatDoor
open Proofs.Tryz
open Go.RowKit
open Go.RowKit Go.Shelf
theorem qx89:(prog.info? 9).map (fun i=>(i.zero,i.size,i.bytes))=some (some (.string .empty),1,16):=by kernel_rfl
def qxd1(L:List UInt8)(l:List Pr):List (List UInt8):=L::l.flatMap fun p=>[be p.id.toNat 1,qgdb p]
theorem qhci(L:List UInt8)(l:List Pr)(p:Pr):qxd1 L (l++[p])=qxd1 L l++[be p.id.toNat 1,qgdb p]:=by simp[qxd1]
theorem qwyw(L:List UInt8):∀(l:List Pr),(qxd1 L l).length=1+2*l.length
 |[]=>rfl
 |p::l=>by
  have:=qwyw L l
  unfold qxd1 at this ⊢;rw[List.length_cons] at this;rw[List.length_cons,List.flatMap_cons,List.length_append,List.length_cons];simp only[List.length_cons,List.length_nil];omega
theorem qwu8(n:Nat):be n 1=[UInt8.ofNat n]:=by simp[be]
theorem q3ez(L:List UInt8)(l:List Pr):(qxd1 L l).flatten=L++q636 l:=by
 unfold qxd1;rw[List.flatten_cons]
 congr 1
 induction l with
 |nil=>rfl
 |cons p l ih=>
  rw[List.flatMap_cons,List.flatten_append,ih,qhx5]
  congr 1
  simp[oneP,qwu8]
theorem q528(a b:List (List UInt8)):strs (a++b)=strs a++strs b:=by simp[strs]
theorem q3yi(ls:List (List UInt8)):Lib.join ls []=ls.flatten:=by
 cases ls with
 |nil=>rfl
 |cons a r=>rw[Lib.join_cons];unfold Lib.joinTail;simp
theorem qzs0(g i c:Nat)(ls:List (List UInt8))(w:World)(hcell:∀j,j<ls.length->w.cell? ⟨g,i+j,none⟩=some (.string (bs (ls.getD j []))))(hg:g<w.heap.size)(hc:ls.length<=c)(hl:ls.flatten.length<=4000000000)(hN:ls.length<=4000000000) :
 Calls prog 152 #[.slice (some ⟨g,i,none⟩) ls.length c,.string ⟨#[]⟩] w fun e w'=>e=.returned (.string (bs ls.flatten))/\Below w.heap.size w w':=by
 have e1:(ls.map bs).map (·.data.toList)=ls:=by rw[List.map_map];simp[Function.comp_def,qkd1]
 have:=Any.strings_Join qsyr q4jg g i c (ls.map bs) ⟨#[]⟩ w (fun j x hx=>by
  have hj:j<ls.length:=by
   have:=(List.getElem?_eq_some_iff.1 hx).1
   simpa using this
  rw[hcell j hj];rw[List.getElem?_map,List.getElem?_eq_getElem hj] at hx;simp only[Option.map_some,Option.some.injEq] at hx;rw[<-hx];simp[List.getD,List.getElem?_eq_getElem hj]) hg (by simp;omega) (by simp;omega) (by rw[e1];show(Lib.join ls []).length<=_;rw[q3yi];omega)
 rw[e1,List.length_map] at this;have e2:Lib.join ls (ByteArray.mk #[]).data.toList=ls.flatten:=q3yi ls;rw[e2] at this;exact this
def ByS(w3:World)(b mb v:Nat)(kind:Int)(p:Pr)(l:List Pr)(W:World):Prop:=
 W.cell? ⟨v,0,none⟩=some (.int .i64 p.id)/\W.cell? ⟨v,1,none⟩=some (.int .u32 p.n)/\W.cell? ⟨v,2,none⟩=some (.string (bs p.text))/\W.cell? ⟨v,3,none⟩=some (.string (bs p.value))/\
 W.cell? ⟨b,1,none⟩=some (.map (some mb))/\
 (Instr.lookup 204 (.map (some mb)) (.int .i64 p.id) false).run prog W=.ok (.agg #[.int .i64 (qwgc p.id:Nat),.int .u32 (qavf p.id:Nat),.int .u32 ((prow p.id).least:Nat)]) W/\
 (qrxu W v p/\TalL W b mb kind l/\Below w3.heap.size w3 W/\PrOk p/\b<w3.heap.size/\mb<w3.heap.size/\w3.heap.size<=v)
section
variable{w3 W W':World}{b mb v:Nat}{kind:Int}{p:Pr}{l:List Pr}
theorem ByS.mk(ok:PrOk p)(h1:qrxu W v p)(h2:TalL W b mb kind l)(h3:Below w3.heap.size w3 W)(hb:b<w3.heap.size)(hm:mb<w3.heap.size)(hv:w3.heap.size<=v):ByS w3 b mb v kind p l W:=by obtain⟨s,t1,t2⟩:=h2;exact⟨h1.c0,h1.c1,h1.c2,h1.c3,t1.c1,t1.2.look ok.lo ok.hi,h1,⟨s,t1,t2⟩,h3,ok,hb,hm,hv⟩
theorem ByS.call(h:ByS w3 b mb v kind p l W)(hb:Below W.heap.size W W'):ByS w3 b mb v kind p l W':=by obtain⟨_,_,_,_,_,_,h1,h2,h3,ok,k1,k2,k3⟩:=h;exact ByS.mk ok (h1.below hb h1.lt) (h2.below hb) (h3.trans (hb.mono h3.size)) k1 k2 k3
theorem ByS.alloc(h:ByS w3 b mb v kind p l W)(o:Obj):ByS w3 b mb v kind p l (W.alloc o):=h.call ((Below.refl _ _).alloc (Nat.le_refl _) _)
theorem ByS.drew(h:ByS w3 b mb v kind p l W):ByS w3 b mb v kind p l W.drew:=by obtain⟨_,_,_,_,_,_,h1,h2,h3,ok,k1,k2,k3⟩:=h;exact ByS.mk ok h1 (h2.draws 1) h3.drew k1 k2 k3
theorem ByS.app(h:ByS w3 b mb v kind p l W){r:Option Nat}(hg:W.grownBy W' r)(hr:∀k,r=some k->w3.heap.size<=k/\k<v):ByS w3 b mb v kind p l W':=by obtain⟨_,_,_,_,_,_,h1,⟨s,t1,t2⟩,h3,ok,k1,k2,k3⟩:=h;refine ByS.mk ok (h1.of_block (hg.block v h1.lt (fun e=>by have:=(hr v e.symm).2;omega))) ⟨s,t1.of_block (hg.block b t1.lt (fun e=>by have:=(hr b e.symm).1;omega)) (hg.block mb t1.mlt (fun e=>by have:=(hr mb e.symm).1;omega)),t2⟩ ?_ k1 k2 k3;exact h3.grown hg h3.size (fun k e=>(hr k e).1)
end
theorem ByS.base{w3 W:World}{b mb v:Nat}{kind:Int}{p:Pr}{l:List Pr}(h:ByS w3 b mb v kind p l W)(o:Obj):w3.heap.size<=(W.alloc o).heap.size:=by
 have:=h.2.2.2.2.2.2.2.2.1.size
 rw[World.size_alloc];omega
theorem qzd3{W W':World}{base:Nat}{e:TypeId}{size n:Nat}{v:Value}{xs:List Value}(h:W.ownsRow base e size v n xs)(hb:Below W.heap.size W W'):W'.ownsRow base e size v n xs:=by
 refine⟨h.1,?_⟩;rcases h.2 with h2|⟨g,cap,cur,hv,h3,hg,h4⟩
 ·exact .inl h2
 ·exact .inr ⟨g,cap,cur,hv,h3,(hb.block g (Array.getElem?_eq_some_iff.1 hg).1).trans hg,h4⟩
open Go.RowKit Go.Shelf
theorem qaeq(kind:Int)(A:Option Addr)(n c:Nat)(l:List Pr)(w:World)(hi:-9223372036854775808<=kind)(hj:kind<=9223372036854775807)(hl:PL w A l)(hn:l.length=n)(hc:n<=c)(ok:∀p∈l,PrOk p)(hv:qpyu kind l≠0) :
 Calls prog 133 #[.int .i64 kind,.slice A n c] w fun e w'=>e=.returned (.tuple #[.string ⟨#[]⟩,.int .i64 ((qpyu kind l:Nat):Int)])/\Below w.heap.size w w':=by
 have MS:=Lib.hid (fun W b mb (h:TalL W b mb kind []) hP hg=>q2yl (w:=W) (b:=b) (mb:=mb) A n c l h hi hj hP hg hn hc ok);have HL:=Lib.hid hl;generalize qpyu kind l=V at *;generalize hT:(if V=0 then(q636 l).length else 0:Nat)=T at *;have g1:((V:Int)==0)=false:=by simp;omega
 have g2:((V:Int) != 0)=true:=by simp;omega
 clear hT hn hc ok hl hv;go_in;go_wp2_with fail;refine(qkou kind w).mono ?_;rintro e w1 ⟨b,mb,rfl,ht,hb,hb2,hm2⟩;have M1:=Lib.hid (MS.out w1 b mb ⟨0,ht,q6mr.nil⟩ (HL.out.below hb) (fun g i e hne=>by obtain⟨g',i',e',hg'⟩:=HL.out.addr hne;rw[e] at e';cases e';omega))
 have HB:=Lib.hid hb;have B2:=Lib.hid hb2;clear ht hb hm2 hb2 MS HL;go_wp2_with fail;refine(M1.out).mono ?_;rintro e w2 ⟨rfl,hg,_⟩;have HG:=Lib.hid (HB.out.trans (qwrj hg HB.out.size B2.out));clear hg;go_wp2
 go_ret2
 exact⟨rfl,HG.out⟩
theorem qmlz(kind:Int)(A:Option Addr)(n c:Nat)(l:List Pr)(w:World)(hi:-9223372036854775808<=kind)(hj:kind<=9223372036854775807)(hl:PL w A l)(hn:l.length=n)(hc:n<=c)(ok:∀p∈l,PrOk p)(hv:qpyu kind l=0) :
 Calls prog 133 #[.int .i64 kind,.slice A n c] w fun e w'=>e=.returned (.tuple #[.string (bs (vb (q636 l).length (sz (q636 l).length)++q636 l)),.int .i64 0])/\Below w.heap.size w w':=by
 obtain⟨v1,v2,v3,v4⟩:=qpfx hv;have MS:=fun W b mb (h:TalL W b mb kind []) hP hg=>q2yl (w:=W) (b:=b) (mb:=mb) A n c l h hi hj hP hg hn hc ok;rw[hv,if_pos rfl] at MS;have MS:=Lib.hid MS;have HL:=Lib.hid hl;have HN:=Lib.hid hn;have OK:=Lib.hid ok;have VB:=fun W=>quvo (q636 l).length W v4;obtain⟨L,hL⟩:∃L,vb (q636 l).length (sz (q636 l).length)=L:=⟨_,rfl⟩
 rw[hL] at VB ⊢;have hres:=q3ez L l;rw[<-hres];have hn3:(qxd1 L l).length=1+2*n:=by rw[qwyw,hn]
 have hfl:(qxd1 L l).flatten.length<=268435459:=by
  rw[hres,List.length_append,<-hL,q8sw]
  have:=qnl4 (q636 l).length v4
  omega
 have VB:=Lib.hid VB;have hn2:(n:Int)<=1000:=by omega
 have H3:=Lib.hid hn3;have HF:=Lib.hid hfl;have CK:=Lib.hid (show ∀p∈l,qr4y kind p=0 from fun p hp=>((qrcn kind l).1 v2).1 p hp);have V1:=Lib.hid v1;obtain⟨i0,hii,hz0,hz1,hz2⟩:=info_parts qx89;clear hn ok hl hv v1 v2 v3 v4 hres hn3 hfl hL;go_in;go_wp2_with fail;refine(qkou kind w).mono ?_;rintro e w1 ⟨b,mb,rfl,ht,hb,hb2,hm2⟩;have M1:=Lib.hid (MS.out w1 b mb ⟨0,ht,q6mr.nil⟩ (HL.out.below hb) (fun g i e hne=>by obtain⟨g',i',e',hg'⟩:=HL.out.addr hne;rw[e] at e';cases e';omega))
 have HB:=Lib.hid hb;have B2:=Lib.hid hb2;clear ht hb hm2 hb2 MS;go_wp2_with fail;refine(M1.out).mono ?_;rintro e w2 ⟨rfl,hg,ht2⟩;have TL:=Lib.hid (ht2 (by simp));have HG:=Lib.hid (HB.out.trans (qwrj hg HB.out.size B2.out));clear hg ht2 M1 HB B2;go_wp2_with fail;refine(VB.out _).mono ?_;rintro e w3 ⟨rfl,hb3⟩;have T3:=Lib.hid (TL.out.below hb3);have G3:=Lib.hid (HG.out.trans (hb3.mono HG.out.size));have L3:=Lib.hid (HL.out.below G3.out);clear hb3 TL HG HL VB;have hbm:=Lib.hid T3.out.lt;go_wp2_with fail
 go_loopg [34,11] n (fun gk s34 s11 wx=>∃k:Nat,k<=n/\gk=n-k/\s34=.int .i64 (k:Int)/\Below w3.heap.size w3 wx/\wx.ownsRow w3.heap.size 9 1 s11 (1+2*k) (strs (qxd1 L (l.take k))))
 case atStart=>exact⟨0,Nat.zero_le _,rfl,rfl,(Below.refl _ _).alloc (Nat.le_refl _) _,by simp[strs,qxd1],.inr ⟨_,1,_,rfl,Nat.le_refl _,heap_alloc_new _ _,Nat.le_refl _,by decide,rfl,by simp[strs,qxd1]⟩⟩
 case round=>
  obtain⟨k,hk,hgk,rfl,hB,hO⟩:=hrel;by_cases hlt:k<n
  ·have hkl:k<l.length:=by rw[HN.out];exact hlt
   obtain⟨p,hp⟩:∃p,l[k]?=some p:=⟨_,List.getElem?_eq_getElem hkl⟩
   obtain⟨g,i,e',hg',c0,c1,c2,c3⟩:=((L3.out.kept hB.size (fun g i e h=>hB.block g h))).at hp;subst e';have g1:(k:Int)<(n:Int):=by omega
   have okp:=OK.out p (List.mem_of_getElem? hp);have ckp:=CK.out p (List.mem_of_getElem? hp);have hid:=qilb (qo1o ckp).1;have htk:l.take (k+1)=l.take k++[p]:=by rw[List.take_add_one,hp];rfl
   obtain⟨q,hq⟩:∃q:Nat,p.id.toNat=q:=⟨_,rfl⟩
   have HP:=Lib.hid (show strs (qxd1 L (l.take k))++[.string (bs (be q 1)),.string (bs (qgdb p))]=strs (qxd1 L (l.take (k+1))) by rw[htk,qhci,q528,hq];rfl);have hw:IntKind.u64.wrap p.id=((q:Nat):Int):=by simp only[IntKind.wrap_u64];omega
   have PU:=fun W=>qe3g q 1 W (by omega);rw[show(min (1:Int) 16).toNat=1 by decide] at PU;have PU1:=Lib.hid PU;have VA:=fun W=>qs7s p W okp ckp;unfold qbhk at VA;have VA1:=Lib.hid VA;have hOB:=hO.lt;have HB2:=Lib.hid hB;have hS:ByS w3 b mb wr.heap.size kind p l (wr.alloc (.cells #[.int .i64 p.id,.int .u32 p.n,.string (bs p.text),.string (bs p.value)] 82)).drew:=
    (ByS.mk okp (qrxu.made wr p) ((T3.out.below hB).alloc _) (hB.alloc hB.size _) hbm.out.1 hbm.out.2 hB.size).drew
   have hO2:(wr.alloc (.cells #[.int .i64 p.id,.int .u32 p.n,.string (bs p.text),.string (bs p.value)] 82)).drew.ownsRow w3.heap.size 9 1 u11 (1+2*k) (strs (qxd1 L (l.take k))):=(hO.alloc _).drew;have FD:=qyw9 (qwgc p.id) (qavf p.id) (prow p.id).least;unfold q3al at FD;have h63:1+2*k+2<=maxLen:=by unfold maxLen;omega
   have hby:(1+2*k+2)*16<=140737488355328:=by omega
   have hone:∀u∈[Value.string (bs (be q 1)),Value.string (bs (qgdb p))],u.oneCell'=true:=by simp[Value.oneCell']
   clear PU VA hid htk hO hB okp ckp hq;go_wp2_with fail
   go_region_held3 (fun w'=>w'.cell? ⟨wr.heap.size,0,none⟩=some (.int .i64 p.id)/\w'.cell? ⟨wr.heap.size,1,none⟩=some (.int .u32 p.n)/\w'.cell? ⟨wr.heap.size,2,none⟩=some (.string (bs p.text))/\w'.cell? ⟨wr.heap.size,3,none⟩=some (.string (bs p.value))/\w'.cell? ⟨b,1,none⟩=some (.map (some mb))/\
    (Instr.lookup 204 (.map (some mb)) (.int .i64 p.id) false).run prog w'=.ok (.agg #[.int .i64 (qwgc p.id:Nat),.int .u32 (qavf p.id:Nat),.int .u32 ((prow p.id).least:Nat)]) w'/\
    (qrxu w' wr.heap.size p/\TalL w' b mb kind l/\Below w3.heap.size w3 w'/\PrOk p/\b<w3.heap.size/\mb<w3.heap.size/\w3.heap.size<=wr.heap.size))
    (first|exact hS|exact ByS.alloc hS _|exact ByS.app (ByS.alloc hS _) hgrow hOB)
    (first
     |(go_at_call 72;with_reducible refine(PU1.out _).mono ?_;rintro e w4 ⟨rfl,hb⟩;have hS:=hS.call hb;have hO2:=qzd3 hO2 hb;clear hb)
     |(go_at_call 172;with_reducible refine(VA1.out _).mono ?_;rintro e w4 ⟨rfl,hb⟩;have hS:=hS.call hb;have hO2:=qzd3 hO2 hb;clear hb)
     |(refine step_append_lies _ (by rfl) _ _ _ (by rfl) w3.heap.size 9 i0 _ 1 16 underlying40 hii hz0 hz1 hz2 rfl (by decide) u11 (1+2*k) (strs (qxd1 L (l.take k))) (by rfl) (hO2.alloc _) ⟨_,0,none⟩ 2 2 [.string (bs (be q 1)),.string (bs (qgdb p))] (by rfl) (by rfl) (World.news_of_block (cs:=#[.string (bs (be q 1)),.string (bs (qgdb p))]) (t:=9) (fr:=(0,0)) (heap_alloc_new _ _)) hone (by decide) h63 hby (ByS.base hS _) _ rfl ?_;intro gg cap w5 hown1 hgrow hat hlt))
   all_goals
    have hS2:=(ByS.app (ByS.alloc hS _) hgrow hOB).2.2.2.2.2.2.2.2.1;rw[HP.out] at hown1;have HB5:=Lib.hid hS2;have HO5:=Lib.hid hown1;rename_i hHeld;clear h63 hby hone hHeld hS hS2 hown1 hO2 hgrow hat hOB;go_wp2_with fail
    go_roundg (n-(k+1))
    case measure=>omega
    case rel=>exact⟨k+1,by omega,rfl,by go_num,HB5.out,by have:=HO5.out;rwa [show 1+2*k+2=1+2*(k+1) by omega] at this⟩
  ·obtain rfl:k=n:=by omega
   have ht1:l.take k=l:=List.take_of_length_le (by rw[HN.out];omega);rw[ht1] at hO;have hlen:=H3.out;obtain⟨g,cap,cur,hv,hbg,hg,hcap,_,_,hcur⟩:∃(g cap:Nat) (cur:Array Value),u11=.slice (some ⟨g,0,none⟩) (1+2*k) cap/\w3.heap.size<=g/\wr.heap[g]?=some (.cells cur 9 (0,0))/\1+2*k<=cap/\cap<=maxLen/\cur.size=cap*1/\List.take ((1+2*k)*1) cur.toList=strs (qxd1 L l):=by
    rcases hO.2 with ⟨_,h0⟩|⟨g,cap,cur,h⟩
    ·omega
    ·exact⟨g,cap,cur,h⟩
   subst hv;have JN:=qzs0 g 0 cap (qxd1 L l) wr (fun j hj=>by
    rw[Nat.zero_add,cell_of_row wr g j cur _ _ hg];have e1:(strs (qxd1 L l))[j]?=some (.string (bs ((qxd1 L l).getD j []))):=by unfold strs;rw[List.getElem?_map,List.getElem?_eq_getElem hj];simp[List.getD,List.getElem?_eq_getElem hj]
    rw[<-hcur,List.getElem?_take_of_lt (by omega)] at e1;simpa using e1) (lt_of_block hg) (by omega) (by have:=HF.out;omega) (by omega)
   rw[hlen] at JN;have JN1:=Lib.hid JN;have HW:=Lib.hid (G3.out.trans (hB.mono G3.out.size));clear JN hO hcur hg hbg hB ht1;go_wp2_with fail;refine(JN1.out).mono ?_;rintro e w6 ⟨rfl,hb6⟩;have HW2:=Lib.hid (HW.out.trans (hb6.mono HW.out.size));clear hb6;go_wp2
   go_ret2
   exact⟨rfl,HW2.out⟩
theorem qs01(kind:Int)(A:Option Addr)(n c:Nat)(l:List Pr)(w:World)(hi:-9223372036854775808<=kind)(hj:kind<=9223372036854775807)(hl:PL w A l)(hn:l.length=n)(hc:n<=c)(ok:∀p∈l,PrOk p) :
 Calls prog 133 #[.int .i64 kind,.slice A n c] w fun e w'=>e=.returned (.tuple #[.string (bs (q5aq kind l).1),.int .i64 ((q5aq kind l).2:Nat)])/\Below w.heap.size w w':=by
 unfold q5aq;by_cases hv:qpyu kind l=0
 ·rw[if_neg (by simp[hv])];exact qmlz kind A n c l w hi hj hl hn hc ok hv
 ·rw[if_pos hv];exact qaeq kind A n c l w hi hj hl hn hc ok hv
end Go.Proofs.YtefmhbioggcfaaaGreatDoor
namespace Go.Proofs.YtefmhbioggcfaaaGreatDoor
open Proofs.Tryz
open Go.RowKit
theorem qvch:(prog.info? 82).map (fun i=>(i.zero,i.size,i.bytes))=some (some (.agg #[.int .i64 0,.int .u32 0,.string .empty,.string .empty]),4,48):=by kernel_rfl
theorem q58f{W W':World}{base n size:Nat}{t:TypeId}{v:Value}{xs:List Value}(h:W.ownsRow base t size v n xs)(hg:W.grownBy W' v.ownBlock)(hb:base<=W.heap.size):Below base W W':=by
 rcases h.2 with ⟨rfl,_⟩|⟨g,cap,cur,rfl,hbg,_⟩
 ·exact⟨hg.os,hg.tape,hg.output,hg.size,fun k hk=>hg.block k (Nat.lt_of_lt_of_le hk hb) (fun e=>by cases e)⟩
 ·exact qwrj hg hb hbg
theorem PL.cells{W:World}{g i:Nat}{l:List Pr}(h:PL W (some ⟨g,i,none⟩) l):∀j u,(pcs l)[j]?=some u->W.cell? ((⟨g,i,none⟩:Addr).add j)=some u:=fun j u hu=>by
 have hj:j<l.length*4:=by
  have:=(List.getElem?_eq_some_iff.1 hu).1
  rwa [qv9d] at this
 obtain⟨p,hp⟩:∃p,l[j / 4]?=some p:=⟨_,List.getElem?_eq_getElem (by omega)⟩
 obtain⟨g',i',e',hg,a0,a1,a2,a3⟩:=h.at hp;cases e';have e1:j=j / 4*4+j%4:=by omega
 have hq:(pcs l)[j]?=(pc p)[j%4]? := by
  have:=qsrc l (j / 4) (j%4) p hp (by omega)
  rwa [<-e1] at this
 rw[hu] at hq;rw[Addr.add_lit g i j];have hr:j%4=0\/j%4=1\/j%4=2\/j%4=3:=by omega
 rcases hr with h|h|h|h
 ·rw[h] at hq;rw[show i+j=i+j / 4*4 by omega,a0];exact hq.symm
 ·rw[h] at hq;rw[show i+j=i+j / 4*4+1 by omega,a1];exact hq.symm
 ·rw[h] at hq;rw[show i+j=i+j / 4*4+2 by omega,a2];exact hq.symm
 ·rw[h] at hq;rw[show i+j=i+j / 4*4+3 by omega,a3];exact hq.symm
theorem qyqq{W:World}{v:Value}{base nA g i m c:Nat}{L M:List Pr}(ty:TypeId)(hown:W.ownsRow base 82 4 v nA (pcs L))(hM:PL W (some ⟨g,i,none⟩) M)(hm:M.length=m)(hn:nA+m<=3000)(hb:base<=W.heap.size) :
 ∃v' w',(Builtin.append_ #[32,32] ty #[v,.slice (some ⟨g,i,none⟩) m c]).run prog W=.ok v' w'/\w'.ownsRow base 82 4 v' (nA+m) (pcs (L++M))/\Below base W w':=by
 obtain⟨i0,hi,hz0,hz1,hz2⟩:=info_parts qvch;obtain⟨v',w',hr,h2,h3,_,_⟩:=run_append_own_at (P:=prog) W base 32 ty 82 i0 (.agg #[.int .i64 0,.int .u32 0,.string .empty,.string .empty]) 4 48 underlying32 hi hz0 hz1 hz2 rfl (by decide) v nA (pcs L) hown ⟨g,i,none⟩ m c (pcs M) (by rw[qv9d,hm]) hM.cells (qtvz M) (by simp only[maxLen];omega) (by omega) hb;rw[<-qdoo] at h2;exact⟨v',w',hr,h2,q58f hown h3 hb⟩
theorem q2qx{P:Program}{W:World}{o:Oper}{a:Act}{K:Act->World->Prop}{Q:Exit->Act->World->Prop}(s x:Operand)(t:TypeId)
 (ho:o.op=.call {callee := .builtin .append,args:=#[s,x],argTypes:=#[t,t]}) {v sl v':Value} {w':World} (hs:a.eval s=v) (hx:a.eval x=sl)
 (hr:(Builtin.append_ #[t,t] o.type #[v,sl]).run P W=.ok v' w') (h:K (a.put o.dst v') w'):o.wp P a W K Q:=by
 unfold Oper.wp execOp;simp only[ho,resolve,invoke,builtin,Sem.run_bind,Sem.run_pure,Result.andThen_ok,List.map_toArray,List.map_cons,List.map_nil,hs,hx,hr];exact h
theorem qvgk{W:World}{o:Oper}{a:Act}{K:Act->World->Prop}{Q:Exit->Act->World->Prop}(s x:Operand)
 (ho:o.op=.call {callee := .builtin .append,args:=#[s,x],argTypes:=#[32,32]})
 {v:Value} {base nA g i m c:Nat} {L M:List Pr} (hs:a.eval s=v) (hx:a.eval x=.slice (some ⟨g,i,none⟩) m c) (hown:W.ownsRow base 82 4 v nA (pcs L)) (hM:PL W (some ⟨g,i,none⟩) M) (hm:M.length=m) (hn:nA+m<=3000) (hb:base<=W.heap.size)
 (h:∀v' w',w'.ownsRow base 82 4 v' (nA+m) (pcs (L++M))->Below base W w'->K (a.put o.dst v') w'):o.wp prog a W K Q:=by
 obtain⟨v',w',hr,h2,h3⟩:=qyqq o.type hown hM hm hn hb;exact q2qx s x _ ho hs hx hr (h v' w' h2 h3)
end Go.Proofs.YtefmhbioggcfaaaGreatDoor
