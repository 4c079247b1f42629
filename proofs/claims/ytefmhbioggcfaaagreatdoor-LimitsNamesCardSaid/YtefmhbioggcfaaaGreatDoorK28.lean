/- What prop.Bytes gathers: the strings that are joined, and what stands meanwhile. No condition. -/
import Derived.Deep.AppendLies
import Derived.Test.YtefmhbioggcfaaaGreatDoorK26
import Derived.Test.YtefmhbioggcfaaaGreatDoorK27
set_option maxHeartbeats 4000000
set_option maxRecDepth 100000
namespace Go.Proofs.YtefmhbioggcfaaaGreatDoor
open Proofs.Tryz
open Go.RowKit
open Go.RowKit Go.Shelf
theorem qx89:(prog.info? 9).map (fun i=>(i.zero,i.size,i.bytes))=some (some (.string .empty),1,16):=by kernel_rfl
def qxd1(L:List UInt8)(l:List Pr):List (List UInt8):=L::l.flatMap fun p=>[be p.id.toNat 1,qgdb p]
theorem qhci(L:List UInt8)(l:List Pr)(p:Pr):qxd1 L (l++[p])=qxd1 L l++[be p.id.toNat 1,qgdb p]:=by simp[qxd1]
theorem qwyw(L:List UInt8):∀(l:List Pr),(qxd1 L l).length=1+2*l.length
 |[]=>rfl
 |p::l=>by
  have:=qwyw L l
  unfold qxd1 at this ⊢;rw[List.length_cons] at this;rw[List.length_cons,List.flatMap_cons,List.length_append,List.length_cons];simp only[List.length_cons,List.length_nil];omega
theorem qwu8(n:Nat):be n 1=[UInt8.ofNat n]:=by simp[be]
theorem q3ez(L:List UInt8)(l:List Pr):(qxd1 L l).flatten=L++q636 l:=by
 unfold qxd1;rw[List.flatten_cons]
 congr 1
 induction l with
 |nil=>rfl
 |cons p l ih=>
  rw[List.flatMap_cons,List.flatten_append,ih,qhx5]
  congr 1
  simp[oneP,qwu8]
theorem q528(a b:List (List UInt8)):strs (a++b)=strs a++strs b:=by simp[strs]
theorem q3yi(ls:List (List UInt8)):Lib.join ls []=ls.flatten:=by
 cases ls with
 |nil=>rfl
 |cons a r=>rw[Lib.join_cons];unfold Lib.joinTail;simp
theorem qzs0(g i c:Nat)(ls:List (List UInt8))(w:World)(hcell:∀j,j<ls.length->w.cell? ⟨g,i+j,none⟩=some (.string (bs (ls.getD j []))))(hg:g<w.heap.size)(hc:ls.length<=c)(hl:ls.flatten.length<=4000000000)(hN:ls.length<=4000000000) :
 Calls prog 152 #[.slice (some ⟨g,i,none⟩) ls.length c,.string ⟨#[]⟩] w fun e w'=>e=.returned (.string (bs ls.flatten))/\Below w.heap.size w w':=by
 have e1:(ls.map bs).map (·.data.toList)=ls:=by rw[List.map_map];simp[Function.comp_def,qkd1]
 have:=Any.strings_Join qsyr q4jg g i c (ls.map bs) ⟨#[]⟩ w (fun j x hx=>by
  have hj:j<ls.length:=by
   have:=(List.getElem?_eq_some_iff.1 hx).1
   simpa using this
  rw[hcell j hj];rw[List.getElem?_map,List.getElem?_eq_getElem hj] at hx;simp only[Option.map_some,Option.some.injEq] at hx;rw[<-hx];simp[List.getD,List.getElem?_eq_getElem hj]) hg (by simp;omega) (by simp;omega) (by rw[e1];show(Lib.join ls []).length<=_;rw[q3yi];omega)
 rw[e1,List.length_map] at this;have e2:Lib.join ls (ByteArray.mk #[]).data.toList=ls.flatten:=q3yi ls;rw[e2] at this;exact this
def ByS(w3:World)(b mb v:Nat)(kind:Int)(p:Pr)(l:List Pr)(W:World):Prop:=
 W.cell? ⟨v,0,none⟩=some (.int .i64 p.id)/\W.cell? ⟨v,1,none⟩=some (.int .u32 p.n)/\W.cell? ⟨v,2,none⟩=some (.string (bs p.text))/\W.cell? ⟨v,3,none⟩=some (.string (bs p.value))/\
 W.cell? ⟨b,1,none⟩=some (.map (some mb))/\
 (Instr.lookup 204 (.map (some mb)) (.int .i64 p.id) false).run prog W=.ok (.agg #[.int .i64 (qwgc p.id:Nat),.int .u32 (qavf p.id:Nat),.int .u32 ((prow p.id).least:Nat)]) W/\
 (qrxu W v p/\TalL W b mb kind l/\Below w3.heap.size w3 W/\PrOk p/\b<w3.heap.size/\mb<w3.heap.size/\w3.heap.size<=v)
section
variable{w3 W W':World}{b mb v:Nat}{kind:Int}{p:Pr}{l:List Pr}
theorem ByS.mk(ok:PrOk p)(h1:qrxu W v p)(h2:TalL W b mb kind l)(h3:Below w3.heap.size w3 W)(hb:b<w3.heap.size)(hm:mb<w3.heap.size)(hv:w3.heap.size<=v):ByS w3 b mb v kind p l W:=by obtain⟨s,t1,t2⟩:=h2;exact⟨h1.c0,h1.c1,h1.c2,h1.c3,t1.c1,t1.2.look ok.lo ok.hi,h1,⟨s,t1,t2⟩,h3,ok,hb,hm,hv⟩
theorem ByS.call(h:ByS w3 b mb v kind p l W)(hb:Below W.heap.size W W'):ByS w3 b mb v kind p l W':=by obtain⟨_,_,_,_,_,_,h1,h2,h3,ok,k1,k2,k3⟩:=h;exact ByS.mk ok (h1.below hb h1.lt) (h2.below hb) (h3.trans (hb.mono h3.size)) k1 k2 k3
theorem ByS.alloc(h:ByS w3 b mb v kind p l W)(o:Obj):ByS w3 b mb v kind p l (W.alloc o):=h.call ((Below.refl _ _).alloc (Nat.le_refl _) _)
theorem ByS.drew(h:ByS w3 b mb v kind p l W):ByS w3 b mb v kind p l W.drew:=by obtain⟨_,_,_,_,_,_,h1,h2,h3,ok,k1,k2,k3⟩:=h;exact ByS.mk ok h1 (h2.draws 1) h3.drew k1 k2 k3
theorem ByS.app(h:ByS w3 b mb v kind p l W){r:Option Nat}(hg:W.grownBy W' r)(hr:∀k,r=some k->w3.heap.size<=k/\k<v):ByS w3 b mb v kind p l W':=by obtain⟨_,_,_,_,_,_,h1,⟨s,t1,t2⟩,h3,ok,k1,k2,k3⟩:=h;refine ByS.mk ok (h1.of_block (hg.block v h1.lt (fun e=>by have:=(hr v e.symm).2;omega))) ⟨s,t1.of_block (hg.block b t1.lt (fun e=>by have:=(hr b e.symm).1;omega)) (hg.block mb t1.mlt (fun e=>by have:=(hr mb e.symm).1;omega)),t2⟩ ?_ k1 k2 k3;exact h3.grown hg h3.size (fun k e=>(hr k e).1)
end
theorem ByS.base{w3 W:World}{b mb v:Nat}{kind:Int}{p:Pr}{l:List Pr}(h:ByS w3 b mb v kind p l W)(o:Obj):w3.heap.size<=(W.alloc o).heap.size:=by
 have:=h.2.2.2.2.2.2.2.2.1.size
 rw[World.size_alloc];omega
theorem qzd3{W W':World}{base:Nat}{e:TypeId}{size n:Nat}{v:Value}{xs:List Value}(h:W.ownsRow base e size v n xs)(hb:Below W.heap.size W W'):W'.ownsRow base e size v n xs:=by
 refine⟨h.1,?_⟩;rcases h.2 with h2|⟨g,cap,cur,hv,h3,hg,h4⟩
 ·exact .inl h2
 ·exact .inr ⟨g,cap,cur,hv,h3,(hb.block g (Array.getElem?_eq_some_iff.1 hg).1).trans hg,h4⟩
open Go.RowKit Go.Shelf
theorem qaeq(kind:Int)(A:Option Addr)(n c:Nat)(l:List Pr)(w:World)(hi:-9223372036854775808<=kind)(hj:kind<=9223372036854775807)(hl:PL w A l)(hn:l.length=n)(hc:n<=c)(ok:∀p∈l,PrOk p)(hv:qpyu kind l≠0) :
 Calls prog 133 #[.int .i64 kind,.slice A n c] w fun e w'=>e=.returned (.tuple #[.string ⟨#[]⟩,.int .i64 ((qpyu kind l:Nat):Int)])/\Below w.heap.size w w':=by
 have MS:=Lib.hid (fun W b mb (h:TalL W b mb kind []) hP hg=>q2yl (w:=W) (b:=b) (mb:=mb) A n c l h hi hj hP hg hn hc ok);have HL:=Lib.hid hl;generalize qpyu kind l=V at *;generalize hT:(if V=0 then(q636 l).length else 0:Nat)=T at *;have g1:((V:Int)==0)=false:=by simp;omega
 have g2:((V:Int) != 0)=true:=by simp;omega
 clear hT hn hc ok hl hv;go_in;go_wp2_with fail;refine(qkou kind w).mono ?_;rintro e w1 ⟨b,mb,rfl,ht,hb,hb2,hm2⟩;have M1:=Lib.hid (MS.out w1 b mb ⟨0,ht,q6mr.nil⟩ (HL.out.below hb) (fun g i e hne=>by obtain⟨g',i',e',hg'⟩:=HL.out.addr hne;rw[e] at e';cases e';omega))
 have HB:=Lib.hid hb;have B2:=Lib.hid hb2;clear ht hb hm2 hb2 MS HL;go_wp2_with fail;refine(M1.out).mono ?_;rintro e w2 ⟨rfl,hg,_⟩;have HG:=Lib.hid (HB.out.trans (qwrj hg HB.out.size B2.out));clear hg;go_wp2
 go_ret2
 exact⟨rfl,HG.out⟩
theorem qmlz(kind:Int)(A:Option Addr)(n c:Nat)(l:List Pr)(w:World)(hi:-9223372036854775808<=kind)(hj:kind<=9223372036854775807)(hl:PL w A l)(hn:l.length=n)(hc:n<=c)(ok:∀p∈l,PrOk p)(hv:qpyu kind l=0) :
 Calls prog 133 #[.int .i64 kind,.slice A n c] w fun e w'=>e=.returned (.tuple #[.string (bs (vb (q636 l).length (sz (q636 l).length)++q636 l)),.int .i64 0])/\Below w.heap.size w w':=by
 obtain⟨v1,v2,v3,v4⟩:=qpfx hv;have MS:=fun W b mb (h:TalL W b mb kind []) hP hg=>q2yl (w:=W) (b:=b) (mb:=mb) A n c l h hi hj hP hg hn hc ok;rw[hv,if_pos rfl] at MS;have MS:=Lib.hid MS;have HL:=Lib.hid hl;have HN:=Lib.hid hn;have OK:=Lib.hid ok;have VB:=fun W=>quvo (q636 l).length W v4;obtain⟨L,hL⟩:∃L,vb (q636 l).length (sz (q636 l).length)=L:=⟨_,rfl⟩
 rw[hL] at VB ⊢;have hres:=q3ez L l;rw[<-hres];have hn3:(qxd1 L l).length=1+2*n:=by rw[qwyw,hn]
 have hfl:(qxd1 L l).flatten.length<=268435459:=by
  rw[hres,List.length_append,<-hL,q8sw]
  have:=qnl4 (q636 l).length v4
  omega
 have VB:=Lib.hid VB;have hn2:(n:Int)<=1000:=by omega
 have H3:=Lib.hid hn3;have HF:=Lib.hid hfl;have CK:=Lib.hid (show ∀p∈l,qr4y kind p=0 from fun p hp=>((qrcn kind l).1 v2).1 p hp);have V1:=Lib.hid v1;obtain⟨i0,hii,hz0,hz1,hz2⟩:=info_parts qx89;clear hn ok hl hv v1 v2 v3 v4 hres hn3 hfl hL;go_in;go_wp2_with fail;refine(qkou kind w).mono ?_;rintro e w1 ⟨b,mb,rfl,ht,hb,hb2,hm2⟩;have M1:=Lib.hid (MS.out w1 b mb ⟨0,ht,q6mr.nil⟩ (HL.out.below hb) (fun g i e hne=>by obtain⟨g',i',e',hg'⟩:=HL.out.addr hne;rw[e] at e';cases e';omega))
 have HB:=Lib.hid hb;have B2:=Lib.hid hb2;clear ht hb hm2 hb2 MS;go_wp2_with fail;refine(M1.out).mono ?_;rintro e w2 ⟨rfl,hg,ht2⟩;have TL:=Lib.hid (ht2 (by simp));have HG:=Lib.hid (HB.out.trans (qwrj hg HB.out.size B2.out));clear hg ht2 M1 HB B2;go_wp2_with fail;refine(VB.out _).mono ?_;rintro e w3 ⟨rfl,hb3⟩;have T3:=Lib.hid (TL.out.below hb3);have G3:=Lib.hid (HG.out.trans (hb3.mono HG.out.size));have L3:=Lib.hid (HL.out.below G3.out);clear hb3 TL HG HL VB;have hbm:=Lib.hid T3.out.lt;go_wp2_with fail
 go_loopg [34,11] n (fun gk s34 s11 wx=>∃k:Nat,k<=n/\gk=n-k/\s34=.int .i64 (k:Int)/\Below w3.heap.size w3 wx/\wx.ownsRow w3.heap.size 9 1 s11 (1+2*k) (strs (qxd1 L (l.take k))))
 case atStart=>exact⟨0,Nat.zero_le _,rfl,rfl,(Below.refl _ _).alloc (Nat.le_refl _) _,by simp[strs,qxd1],.inr ⟨_,1,_,rfl,Nat.le_refl _,heap_alloc_new _ _,Nat.le_refl _,by decide,rfl,by simp[strs,qxd1]⟩⟩
 case round=>
  obtain⟨k,hk,hgk,rfl,hB,hO⟩:=hrel;by_cases hlt:k<n
  ·have hkl:k<l.length:=by rw[HN.out];exact hlt
   obtain⟨p,hp⟩:∃p,l[k]?=some p:=⟨_,List.getElem?_eq_getElem hkl⟩
   obtain⟨g,i,e',hg',c0,c1,c2,c3⟩:=((L3.out.kept hB.size (fun g i e h=>hB.block g h))).at hp;subst e';have g1:(k:Int)<(n:Int):=by omega
   have okp:=OK.out p (List.mem_of_getElem? hp);have ckp:=CK.out p (List.mem_of_getElem? hp);have hid:=qilb (qo1o ckp).1;have htk:l.take (k+1)=l.take k++[p]:=by rw[List.take_add_one,hp];rfl
   obtain⟨q,hq⟩:∃q:Nat,p.id.toNat=q:=⟨_,rfl⟩
   have HP:=Lib.hid (show strs (qxd1 L (l.take k))++[.string (bs (be q 1)),.string (bs (qgdb p))]=strs (qxd1 L (l.take (k+1))) by rw[htk,qhci,q528,hq];rfl);have hw:IntKind.u64.wrap p.id=((q:Nat):Int):=by simp only[IntKind.wrap_u64];omega
   have PU:=fun W=>qe3g q 1 W (by omega);rw[show(min (1:Int) 16).toNat=1 by decide] at PU;have PU1:=Lib.hid PU;have VA:=fun W=>qs7s p W okp ckp;unfold qbhk at VA;have VA1:=Lib.hid VA;have hOB:=hO.lt;have HB2:=Lib.hid hB;have hS:ByS w3 b mb wr.heap.size kind p l (wr.alloc (.cells #[.int .i64 p.id,.int .u32 p.n,.string (bs p.text),.string (bs p.value)] 82)).drew:=
    (ByS.mk okp (qrxu.made wr p) ((T3.out.below hB).alloc _) (hB.alloc hB.size _) hbm.out.1 hbm.out.2 hB.size).drew
   have hO2:(wr.alloc (.cells #[.int .i64 p.id,.int .u32 p.n,.string (bs p.text),.string (bs p.value)] 82)).drew.ownsRow w3.heap.size 9 1 u11 (1+2*k) (strs (qxd1 L (l.take k))):=(hO.alloc _).drew;have FD:=qyw9 (qwgc p.id) (qavf p.id) (prow p.id).least;unfold q3al at FD;have h63:1+2*k+2<=maxLen:=by unfold maxLen;omega
   have hby:(1+2*k+2)*16<=140737488355328:=by omega
   have hone:∀u∈[Value.string (bs (be q 1)),Value.string (bs (qgdb p))],u.oneCell'=true:=by simp[Value.oneCell']
   clear PU VA hid htk hO hB okp ckp hq;go_wp2_with fail
   go_region_held3 (fun w'=>w'.cell? ⟨wr.heap.size,0,none⟩=some (.int .i64 p.id)/\w'.cell? ⟨wr.heap.size,1,none⟩=some (.int .u32 p.n)/\w'.cell? ⟨wr.heap.size,2,none⟩=some (.string (bs p.text))/\w'.cell? ⟨wr.heap.size,3,none⟩=some (.string (bs p.value))/\w'.cell? ⟨b,1,none⟩=some (.map (some mb))/\
    (Instr.lookup 204 (.map (some mb)) (.int .i64 p.id) false).run prog w'=.ok (.agg #[.int .i64 (qwgc p.id:Nat),.int .u32 (qavf p.id:Nat),.int .u32 ((prow p.id).least:Nat)]) w'/\
    (qrxu w' wr.heap.size p/\TalL w' b mb kind l/\Below w3.heap.size w3 w'/\PrOk p/\b<w3.heap.size/\mb<w3.heap.size/\w3.heap.size<=wr.heap.size))
    (first|exact hS|exact ByS.alloc hS _|exact ByS.app (ByS.alloc hS _) hgrow hOB)
    (first
     |(go_at_call 72;with_reducible refine(PU1.out _).mono ?_;rintro e w4 ⟨rfl,hb⟩;have hS:=hS.call hb;have hO2:=qzd3 hO2 hb;clear hb)
     |(go_at_call 172;with_reducible refine(VA1.out _).mono ?_;rintro e w4 ⟨rfl,hb⟩;have hS:=hS.call hb;have hO2:=qzd3 hO2 hb;clear hb)
     |(refine step_append_lies _ (by rfl) _ _ _ (by rfl) w3.heap.size 9 i0 _ 1 16 underlying40 hii hz0 hz1 hz2 rfl (by decide) u11 (1+2*k) (strs (qxd1 L (l.take k))) (by rfl) (hO2.alloc _) ⟨_,0,none⟩ 2 2 [.string (bs (be q 1)),.string (bs (qgdb p))] (by rfl) (by rfl) (World.news_of_block (cs:=#[.string (bs (be q 1)),.string (bs (qgdb p))]) (t:=9) (fr:=(0,0)) (heap_alloc_new _ _)) hone (by decide) h63 hby (ByS.base hS _) _ rfl ?_;intro gg cap w5 hown1 hgrow hat hlt))
   all_goals
    have hS2:=(ByS.app (ByS.alloc hS _) hgrow hOB).2.2.2.2.2.2.2.2.1;rw[HP.out] at hown1;have HB5:=Lib.hid hS2;have HO5:=Lib.hid hown1;rename_i hHeld;clear h63 hby hone hHeld hS hS2 hown1 hO2 hgrow hat hOB;go_wp2_with fail
    go_roundg (n-(k+1))
    case measure=>omega
    case rel=>exact⟨k+1,by omega,rfl,by go_num,HB5.out,by have:=HO5.out;rwa [show 1+2*k+2=1+2*(k+1) by omega] at this⟩
  ·obtain rfl:k=n:=by omega
   have ht1:l.take k=l:=List.take_of_length_le (by rw[HN.out];omega);rw[ht1] at hO;have hlen:=H3.out;obtain⟨g,cap,cur,hv,hbg,hg,hcap,_,_,hcur⟩:∃(g cap:Nat) (cur:Array Value),u11=.slice (some ⟨g,0,none⟩) (1+2*k) cap/\w3.heap.size<=g/\wr.heap[g]?=some (.cells cur 9 (0,0))/\1+2*k<=cap/\cap<=maxLen/\cur.size=cap*1/\List.take ((1+2*k)*1) cur.toList=strs (qxd1 L l):=by
    rcases hO.2 with ⟨_,h0⟩|⟨g,cap,cur,h⟩
    ·omega
    ·exact⟨g,cap,cur,h⟩
   subst hv;have JN:=qzs0 g 0 cap (qxd1 L l) wr (fun j hj=>by
    rw[Nat.zero_add,cell_of_row wr g j cur _ _ hg];have e1:(strs (qxd1 L l))[j]?=some (.string (bs ((qxd1 L l).getD j []))):=by unfold strs;rw[List.getElem?_map,List.getElem?_eq_getElem hj];simp[List.getD,List.getElem?_eq_getElem hj]
    rw[<-hcur,List.getElem?_take_of_lt (by omega)] at e1;simpa using e1) (lt_of_block hg) (by omega) (by have:=HF.out;omega) (by omega)
   rw[hlen] at JN;have JN1:=Lib.hid JN;have HW:=Lib.hid (G3.out.trans (hB.mono G3.out.size));clear JN hO hcur hg hbg hB ht1;go_wp2_with fail;refine(JN1.out).mono ?_;rintro e w6 ⟨rfl,hb6⟩;have HW2:=Lib.hid (HW.out.trans (hb6.mono HW.out.size));clear hb6;go_wp2
   go_ret2
   exact⟨rfl,HW2.out⟩
theorem qs01(kind:Int)(A:Option Addr)(n c:Nat)(l:List Pr)(w:World)(hi:-9223372036854775808<=kind)(hj:kind<=9223372036854775807)(hl:PL w A l)(hn:l.length=n)(hc:n<=c)(ok:∀p∈l,PrOk p) :
 Calls prog 133 #[.int .i64 kind,.slice A n c] w fun e w'=>e=.returned (.tuple #[.string (bs (q5aq kind l).1),.int .i64 ((q5aq kind l).2:Nat)])/\Below w.heap.size w w':=by
 unfold q5aq;by_cases hv:qpyu kind l=0
 ·rw[if_neg (by simp[hv])];exact qmlz kind A n c l w hi hj hl hn hc ok hv
 ·rw[if_pos hv];exact qaeq kind A n c l w hi hj hl hn hc ok hv
end Go.Proofs.YtefmhbioggcfaaaGreatDoor
namespace Go.Proofs.YtefmhbioggcfaaaGreatDoor
open Proofs.Tryz
open Go.RowKit
theorem qvch:(prog.info? 82).map (fun i=>(i.zero,i.size,i.bytes))=some (some (.agg #[.int .i64 0,.int .u32 0,.string .empty,.string .empty]),4,48):=by kernel_rfl
theorem q58f{W W':World}{base n size:Nat}{t:TypeId}{v:Value}{xs:List Value}(h:W.ownsRow base t size v n xs)(hg:W.grownBy W' v.ownBlock)(hb:base<=W.heap.size):Below base W W':=by
 rcases h.2 with ⟨rfl,_⟩|⟨g,cap,cur,rfl,hbg,_⟩
 ·exact⟨hg.os,hg.tape,hg.output,hg.size,fun k hk=>hg.block k (Nat.lt_of_lt_of_le hk hb) (fun e=>by cases e)⟩
 ·exact qwrj hg hb hbg
theorem PL.cells{W:World}{g i:Nat}{l:List Pr}(h:PL W (some ⟨g,i,none⟩) l):∀j u,(pcs l)[j]?=some u->W.cell? ((⟨g,i,none⟩:Addr).add j)=some u:=fun j u hu=>by
 have hj:j<l.length*4:=by
  have:=(List.getElem?_eq_some_iff.1 hu).1
  rwa [qv9di] at this
 obtain⟨p,hp⟩:∃p,l[j / 4]?=some p:=⟨_,List.getElem?_eq_getElem (by omega)⟩
 obtain⟨g',i',e',hg,a0,a1,a2,a3⟩:=h.at hp;cases e';have e1:j=j / 4*4+j%4:=by omega
 have hq:(pcs l)[j]?=(pc p)[j%4]? := by
  have:=qsrc l (j / 4) (j%4) p hp (by omega)
  rwa [<-e1] at this
 rw[hu] at hq;rw[Addr.add_lit g i j];have hr:j%4=0\/j%4=1\/j%4=2\/j%4=3:=by omega
 rcases hr with h|h|h|h
 ·rw[h] at hq;rw[show i+j=i+j / 4*4 by omega,a0];exact hq.symm
 ·rw[h] at hq;rw[show i+j=i+j / 4*4+1 by omega,a1];exact hq.symm
 ·rw[h] at hq;rw[show i+j=i+j / 4*4+2 by omega,a2];exact hq.symm
 ·rw[h] at hq;rw[show i+j=i+j / 4*4+3 by omega,a3];exact hq.symm
theorem qyqq{W:World}{v:Value}{base nA g i m c:Nat}{L M:List Pr}(ty:TypeId)(hown:W.ownsRow base 82 4 v nA (pcs L))(hM:PL W (some ⟨g,i,none⟩) M)(hm:M.length=m)(hn:nA+m<=3000)(hb:base<=W.heap.size) :
 ∃v' w',(Builtin.append_ #[32,32] ty #[v,.slice (some ⟨g,i,none⟩) m c]).run prog W=.ok v' w'/\w'.ownsRow base 82 4 v' (nA+m) (pcs (L++M))/\Below base W w':=by
 obtain⟨i0,hi,hz0,hz1,hz2⟩:=info_parts qvch;obtain⟨v',w',hr,h2,h3,_,_⟩:=run_append_own_at (P:=prog) W base 32 ty 82 i0 (.agg #[.int .i64 0,.int .u32 0,.string .empty,.string .empty]) 4 48 underlying32 hi hz0 hz1 hz2 rfl (by decide) v nA (pcs L) hown ⟨g,i,none⟩ m c (pcs M) (by rw[qv9di,hm]) hM.cells (qtvz M) (by simp only[maxLen];omega) (by omega) hb;rw[<-qdoo] at h2;exact⟨v',w',hr,h2,q58f hown h3 hb⟩
theorem q2qx{P:Program}{W:World}{o:Oper}{a:Act}{K:Act->World->Prop}{Q:Exit->Act->World->Prop}(s x:Operand)(t:TypeId)
 (ho:o.op=.call {callee := .builtin .append,args:=#[s,x],argTypes:=#[t,t]}) {v sl v':Value} {w':World} (hs:a.eval s=v) (hx:a.eval x=sl)
 (hr:(Builtin.append_ #[t,t] o.type #[v,sl]).run P W=.ok v' w') (h:K (a.put o.dst v') w'):o.wp P a W K Q:=by
 unfold Oper.wp execOp;simp only[ho,resolve,invoke,builtin,Sem.run_bind,Sem.run_pure,Result.andThen_ok,List.map_toArray,List.map_cons,List.map_nil,hs,hx,hr];exact h
theorem qvgk{W:World}{o:Oper}{a:Act}{K:Act->World->Prop}{Q:Exit->Act->World->Prop}(s x:Operand)
 (ho:o.op=.call {callee := .builtin .append,args:=#[s,x],argTypes:=#[32,32]})
 {v:Value} {base nA g i m c:Nat} {L M:List Pr} (hs:a.eval s=v) (hx:a.eval x=.slice (some ⟨g,i,none⟩) m c) (hown:W.ownsRow base 82 4 v nA (pcs L)) (hM:PL W (some ⟨g,i,none⟩) M) (hm:M.length=m) (hn:nA+m<=3000) (hb:base<=W.heap.size)
 (h:∀v' w',w'.ownsRow base 82 4 v' (nA+m) (pcs (L++M))->Below base W w'->K (a.put o.dst v') w'):o.wp prog a W K Q:=by
 obtain⟨v',w',hr,h2,h3⟩:=qyqq o.type hown hM hm hn hb;exact q2qx s x _ ho hs hx hr (h v' w' h2 h3)
theorem SR.cells{W:World}{g i:Nat}{ls:List (List UInt8)}(h:SR W (some ⟨g,i,none⟩) ls)(hne:ls≠[]):g<W.heap.size/\∀j,j<ls.length->W.cell? ⟨g,i+j,none⟩=some (.string (bs (ls.getD j []))):=by obtain⟨g',i',e,hg,hc⟩:=h hne;cases e;exact⟨hg,hc⟩
theorem qils(g i c:Nat)(ls:List (List UInt8))(w:World)(h:SR w (some ⟨g,i,none⟩) ls)(hne:ls≠[])(hc:ls.length<=c)(hl:ls.flatten.length<=4000000000)(hN:ls.length<=4000000000) :
 Calls prog 107 #[.slice (some ⟨g,i,none⟩) ls.length c] w fun e w'=>e=.returned (.string (bs ls.flatten))/\Below w.heap.size w w':=by
 obtain⟨hg,hcell⟩:=h.cells hne;have J:=Lib.hid (qzs0 g i c ls w hcell hg hc hl hN);clear h hcell hg hc hl hN;generalize ls.length=n at *;go_in;go_wp2_with fail;refine(J.out).mono ?_;rintro e w' ⟨rfl,hb⟩;go_wp2;go_ret;exact⟨rfl,hb⟩
theorem q99g(b:Bool)(g i c:Nat)(ls:List (List UInt8))(w:World)(h:SR w (some ⟨g,i,none⟩) ls)(hne:ls≠[])(hc:ls.length<=c)(hl:ls.flatten.length<=4000000000)(hN:ls.length<=4000000000) :
 Calls prog 113 #[.bool b,.slice (some ⟨g,i,none⟩) ls.length c] w fun e w'=>e=.returned (.string (bs (if b then ls.flatten else [])))/\Below w.heap.size w w':=by
 have J:=Lib.hid (qils g i c ls w h hne hc hl hN);clear h hc hl hN;generalize ls.length=n at *;cases b with
 |true=>go_in;go_wp2_with fail;refine(J.out).mono ?_;rintro e w' ⟨rfl,hb⟩;go_wp2;go_ret;exact⟨rfl,hb⟩
 |false=>go_in;go_wp2;go_ret;exact⟨rfl,Below.refl _ _⟩
theorem q7sk(v kind:Int)(A:Option Addr)(n c:Nat)(l:List Pr)(w:World)(hi:-9223372036854775808<=kind)(hj:kind<=9223372036854775807)(hl:PL w A l)(hn:l.length=n)(hc:n<=c)(ok:∀p∈l,PrOk p) :
 Calls prog 110 #[.int .i64 v,.int .i64 kind,.slice A n c] w fun e w'=>e=.returned (.string (bs (tailC v kind l)))/\Below w.heap.size w w':=by
 unfold tailC;by_cases h5:v=5
 ·subst h5;rw[if_pos rfl];have BY:=Lib.hid (qs01 kind A n c l w hi hj hl hn hc ok);clear hl ok hi hj hc;generalize q5aq kind l=z at *;obtain⟨z1,z2⟩:=z;go_in;go_wp2_with fail;refine(BY.out).mono ?_;rintro e w' ⟨rfl,hb⟩;go_wp2;go_ret;exact⟨rfl,hb⟩
 ·rw[if_neg h5];have h5':(v==5)=false:=beq_eq_false_iff_ne.2 h5;have h5n:(v != 5)=true:=by rw[show(v != 5)=!(v==5) from rfl,h5'];rfl
  clear h5 h5' hl ok hi hj hc;go_in;go_wp2;go_ret;exact⟨rfl,Below.refl _ _⟩
theorem q9q1(g c:Nat)(x y:Int)(w:World)(hg:g<w.heap.size)(hx0:0<=x)(hx1:x<256)(hy0:0<=y)(hy1:y<256)(h0:w.cell? ⟨g,0,none⟩=some (.int .i64 x))(h1:w.cell? ⟨g,1,none⟩=some (.int .i64 y)) :
 Calls prog 108 #[.slice (some ⟨g,0,none⟩) 2 c] w fun e w'=>e=.returned (.string (bs [UInt8.ofNat x.toNat,UInt8.ofNat y.toNat]))/\Below w.heap.size w w':=by
 obtain⟨m,rfl⟩:=Int.eq_ofNat_of_zero_le hx0;obtain⟨n,rfl⟩:=Int.eq_ofNat_of_zero_le hy0;have e1:(min (1:Int) 16).toNat=1:=by decide
 have PX:∀W,Calls prog 72 #[.int .u64 (m:Int),.int .i64 1] W fun e w'=>e=.returned (.string (bs [UInt8.ofNat m]))/\Below W.heap.size W w':=fun W=>by
  have:=qe3g m 1 W (by omega)
  rw[e1,qpzx] at this;exact this
 have PY:∀W,Calls prog 72 #[.int .u64 (n:Int),.int .i64 1] W fun e w'=>e=.returned (.string (bs [UInt8.ofNat n]))/\Below W.heap.size W w':=fun W=>by
  have:=qe3g n 1 W (by omega)
  rw[e1,qpzx] at this;exact this
 have hR:(⟨#[]⟩:ByteArray)++bs [UInt8.ofNat m]++bs [UInt8.ofNat n]=bs [UInt8.ofNat m,UInt8.ofNat n]:=by show bs []++_++_=_;rw[qyv7,qyv7];rfl
 rw[Int.toNat_natCast,Int.toNat_natCast,<-hR];have sX:(bs [UInt8.ofNat m]).size=1:=rfl;have sY:(bs [UInt8.ofNat n]).size=1:=rfl;generalize bs [UInt8.ofNat m]=X at *;generalize bs [UInt8.ofNat n]=Y at *;have e0:(⟨#[]⟩:ByteArray)++X=X:=by apply ByteArray.ext;simp
 rw[e0];have E0:=Lib.hid e0;have hs1:¬9223372036854775807<X.size+Y.size:=by omega
 have PXh:=Lib.hid PX;have PYh:=Lib.hid PY;have hm:(m:Int)<256:=hx1;have hn:(n:Int)<256:=hy1;have hm0:(0:Int)<=m:=hx0;have hn0:(0:Int)<=n:=hy0;clear hR hx1 hy1 hx0 hy0 e1 PX PY e0;go_in;go_wp2_with fail;refine wp_loop_rounds 3 ?_;rw[rounds_succ];go_wp2_with fail;refine(PXh.out _).mono ?_;rintro e W ⟨rfl,hb⟩;have h1':W.cell? ⟨g,1,none⟩=some (.int .i64 n):=(hb.cell (p:=⟨g,1,none⟩) hg).trans h1;have B1:=Lib.hid hb;clear hb h0 h1;go_wp2_with fail;rw[rounds_succ];go_wp2_with fail;refine(PYh.out _).mono ?_;rintro e W2 ⟨rfl,hb⟩;have B2:=Lib.hid (qxh2 B1.out hb);clear hb h1';go_wp2_with fail;rw[rounds_succ];go_wp2;go_ret;exact⟨rfl,B2.out⟩
theorem qha8(w:World):(Instr.makeSlice 40 (.int .i64 1) (.int .i64 1)).run prog w=.ok (.slice (some ⟨w.heap.size,0,none⟩) 1 1) (w.alloc (.cells #[.string ⟨#[]⟩] 9)):=by kernel_rfl
theorem qyi6(g c:Nat)(t:List UInt8)(w:World)(hg:g<w.heap.size)(ht:t.length<=65535)(k0:w.cell? ⟨g,0,none⟩=some (.string (bs t))) :
 Calls prog 112 #[.slice (some ⟨g,0,none⟩) 1 c] w fun e w'=>e=.returned (.string (bs (enc2 t)))/\Below w.heap.size w w':=by
 have BIt:∀W,Calls prog 153 #[.string (bs t)] W fun e w'=>e=.returned (.tuple #[.string (bs (enc2 t)),.int .i64 0])/\Below W.heap.size W w':=fun W=>qbrl (bs t) W (by rw[q5zk];exact ht);have BIt:=Lib.hid BIt;have lt:(enc2 t).length<=65537:=by rw[qnp6];omega
 have JO:=fun(W:World) (hc:W.heap[w.heap.size]?=some (.cells (strs [enc2 t]).toArray 9 (0,0)))=>qils w.heap.size 0 1 [enc2 t] W (fun _=>⟨_,_,rfl,lt_of_block hc,fun j hj=>by rw[Nat.zero_add];exact(cell_of_row _ _ j _ _ _ hc).trans (qx4f _ j hj)⟩) (by simp) (Nat.le_refl _) (by simp;omega) (by simp);have ef:[enc2 t].flatten=enc2 t:=by simp
 rw[ef] at JO;have JO:=Lib.hid JO;have hz:=qha8;have B0:=Lib.hid (qybm (w:=w) (.cells #[.string ⟨#[]⟩] 9));have G0:=heap_alloc_new w (.cells #[.string ⟨#[]⟩] 9);have q0:(w.alloc (.cells #[.string ⟨#[]⟩] 9)).cell? ⟨g,0,none⟩=some (.string (bs t)):=(B0.out.cell (p:=⟨g,0,none⟩) hg).trans k0;have hne:g≠w.heap.size:=by omega
 clear ht lt ef k0;generalize hW0:w.alloc (.cells #[.string ⟨#[]⟩] 9)=W0 at *;have HW0:=Lib.hid hW0;clear hW0;go_in;go_wp2_with fail;rw[HW0.out];refine wp_loop_rounds 2 ?_;rw[rounds_succ];go_wp2_with fail;refine(BIt.out _).mono ?_;rintro e V0 ⟨rfl,hb⟩;have HV0:=Lib.hid (qxh2 B0.out hb);have GV0:=(hb.block _ (lt_of_block G0)).trans G0;have c0:V0.cell? ⟨w.heap.size,0,none⟩=some (.string ⟨#[]⟩):=cell_of_row _ _ 0 _ _ _ GV0;have f0:V0.frozen? ⟨w.heap.size,0,none⟩=false:=frozen_of_row _ _ _ _ _ GV0;clear hb q0;have G1:=qlvy GV0 0 (.string (bs (enc2 t)));have B1:=Lib.hid (HV0.out.setCell (p:=⟨w.heap.size,0,none⟩) (Nat.le_refl _) (.string (bs (enc2 t))));clear G0 GV0;have G1:=Lib.hid G1;go_wp2_with fail;clear c0 f0;have G1:=G1.out;generalize V0.setCell ⟨w.heap.size,0,none⟩ (.string (bs (enc2 t)))=U0 at *;have JW:=Lib.hid (JO.out _ (by exact G1));have BN:=Lib.hid B1.out;clear G1 JO;rw[rounds_succ];go_wp2_with fail;refine(JW.out).mono ?_;rintro e V ⟨rfl,hb⟩;have BV:=Lib.hid (qxh2 BN.out hb);clear hb;go_wp2;go_ret;exact⟨rfl,BV.out⟩
theorem qjs0(w:World):(Instr.makeSlice 40 (.int .i64 2) (.int .i64 2)).run prog w=.ok (.slice (some ⟨w.heap.size,0,none⟩) 2 2) (w.alloc (.cells #[.string ⟨#[]⟩,.string ⟨#[]⟩] 9)):=by kernel_rfl
theorem qoy1(g c:Nat)(t u:List UInt8)(w:World)(hg:g<w.heap.size)(ht:t.length<=65535)(hu:u.length<=65535)(k0:w.cell? ⟨g,0,none⟩=some (.string (bs t)))(k1:w.cell? ⟨g,1,none⟩=some (.string (bs u))) :
 Calls prog 112 #[.slice (some ⟨g,0,none⟩) 2 c] w fun e w'=>e=.returned (.string (bs (enc2 t++enc2 u)))/\Below w.heap.size w w':=by
 have BIt:∀W,Calls prog 153 #[.string (bs t)] W fun e w'=>e=.returned (.tuple #[.string (bs (enc2 t)),.int .i64 0])/\Below W.heap.size W w':=fun W=>qbrl (bs t) W (by rw[q5zk];exact ht);have BIt:=Lib.hid BIt;have lt:(enc2 t).length<=65537:=by rw[qnp6];omega
 have BIu:∀W,Calls prog 153 #[.string (bs u)] W fun e w'=>e=.returned (.tuple #[.string (bs (enc2 u)),.int .i64 0])/\Below W.heap.size W w':=fun W=>qbrl (bs u) W (by rw[q5zk];exact hu);have BIu:=Lib.hid BIu;have lu:(enc2 u).length<=65537:=by rw[qnp6];omega
 have JO:=fun(W:World) (hc:W.heap[w.heap.size]?=some (.cells (strs [enc2 t,enc2 u]).toArray 9 (0,0)))=>qils w.heap.size 0 2 [enc2 t,enc2 u] W (fun _=>⟨_,_,rfl,lt_of_block hc,fun j hj=>by rw[Nat.zero_add];exact(cell_of_row _ _ j _ _ _ hc).trans (qx4f _ j hj)⟩) (by simp) (Nat.le_refl _) (by simp;omega) (by simp);have ef:[enc2 t,enc2 u].flatten=enc2 t++enc2 u:=by simp
 rw[ef] at JO;have JO:=Lib.hid JO;have hz:=qjs0;have B0:=Lib.hid (qybm (w:=w) (.cells #[.string ⟨#[]⟩,.string ⟨#[]⟩] 9));have G0:=heap_alloc_new w (.cells #[.string ⟨#[]⟩,.string ⟨#[]⟩] 9);have q0:(w.alloc (.cells #[.string ⟨#[]⟩,.string ⟨#[]⟩] 9)).cell? ⟨g,0,none⟩=some (.string (bs t)):=(B0.out.cell (p:=⟨g,0,none⟩) hg).trans k0;have q1:(w.alloc (.cells #[.string ⟨#[]⟩,.string ⟨#[]⟩] 9)).cell? ⟨g,1,none⟩=some (.string (bs u)):=(B0.out.cell (p:=⟨g,1,none⟩) hg).trans k1;have hne:g≠w.heap.size:=by omega
 clear ht hu lt lu ef k0 k1;generalize hW0:w.alloc (.cells #[.string ⟨#[]⟩,.string ⟨#[]⟩] 9)=W0 at *;have HW0:=Lib.hid hW0;clear hW0;go_in;go_wp2_with fail;rw[HW0.out];refine wp_loop_rounds 3 ?_;rw[rounds_succ];go_wp2_with fail;refine(BIt.out _).mono ?_;rintro e V0 ⟨rfl,hb⟩;have HV0:=Lib.hid (qxh2 B0.out hb);have GV0:=(hb.block _ (lt_of_block G0)).trans G0;have v1:=(hb.cell (p:=⟨g,1,none⟩) (Nat.lt_of_lt_of_le hg B0.out.size)).trans q1;have c0:V0.cell? ⟨w.heap.size,0,none⟩=some (.string ⟨#[]⟩):=cell_of_row _ _ 0 _ _ _ GV0;have f0:V0.frozen? ⟨w.heap.size,0,none⟩=false:=frozen_of_row _ _ _ _ _ GV0;clear hb q0 q1;have G1:=qlvy GV0 0 (.string (bs (enc2 t)));have B1:=Lib.hid (HV0.out.setCell (p:=⟨w.heap.size,0,none⟩) (Nat.le_refl _) (.string (bs (enc2 t))));have q1:(V0.setCell ⟨w.heap.size,0,none⟩ (.string (bs (enc2 t)))).cell? ⟨g,1,none⟩=some (.string (bs u)):=(World.cell?_setCell_other _ _ _ _ (fun e=>hne (congrArg Addr.block e).symm)).trans v1;clear G0 GV0 v1;have G1:=Lib.hid G1;go_wp2_with fail;clear c0 f0;have G1:=G1.out;generalize V0.setCell ⟨w.heap.size,0,none⟩ (.string (bs (enc2 t)))=U0 at *;rw[rounds_succ];go_wp2_with fail;refine(BIu.out _).mono ?_;rintro e V1 ⟨rfl,hb⟩;have HV1:=Lib.hid (qxh2 B1.out hb);have GV1:=(hb.block _ (lt_of_block G1)).trans G1;have c1:V1.cell? ⟨w.heap.size,1,none⟩=some (.string ⟨#[]⟩):=cell_of_row _ _ 1 _ _ _ GV1;have f1:V1.frozen? ⟨w.heap.size,1,none⟩=false:=frozen_of_row _ _ _ _ _ GV1;clear hb q1;have G2:=qlvy GV1 1 (.string (bs (enc2 u)));have B2:=Lib.hid (HV1.out.setCell (p:=⟨w.heap.size,1,none⟩) (Nat.le_refl _) (.string (bs (enc2 u))));clear G1 GV1;have G2:=Lib.hid G2;go_wp2_with fail;clear c1 f1;have G2:=G2.out;generalize V1.setCell ⟨w.heap.size,1,none⟩ (.string (bs (enc2 u)))=U1 at *;have JW:=Lib.hid (JO.out _ (by exact G2));have BN:=Lib.hid B2.out;clear G2 JO;rw[rounds_succ];go_wp2_with fail;refine(JW.out).mono ?_;rintro e V ⟨rfl,hb⟩;have BV:=Lib.hid (qxh2 BN.out hb);clear hb;go_wp2;go_ret;exact⟨rfl,BV.out⟩
end Go.Proofs.YtefmhbioggcfaaaGreatDoor
namespace Go.Proofs.YtefmhbioggcfaaaGreatDoor
open Proofs.Tryz
open Go.RowKit Go.Shelf
def SbAt(b:Nat)(l:List UInt8)(W:World):Prop:=Lib.IsBuilder 172 5 b b (Lib.byteCells l) W
theorem SbAt.lt{b:Nat}{l:List UInt8}{W:World}(h:SbAt b l W):b<W.heap.size:=by rcases h with h|h<;>exact h.lt
theorem SbAt.made(w:World):SbAt w.heap.size [] (w.alloc (.cells #[.pointer none,.slice none 0 0] 172)):=
 .inl ⟨Nat.le_refl _,_,heap_alloc_new _ _,⟨rfl,.inl ⟨rfl,rfl⟩⟩,by simp[Value.ownBlock]⟩
theorem SbAt.call{b:Nat}{l:List UInt8}{W W':World}(h:SbAt b l W)(hb:Below W.heap.size W W'):SbAt b l W':=by
 have each:∀p,Lib.BuilderAt 172 5 b b p (Lib.byteCells l) W->Lib.BuilderAt 172 5 b b p (Lib.byteCells l) W':=fun p h=>by have hlt:=h.lt;obtain⟨h1,v,h2,h3,h4⟩:=h;exact⟨h1,v,(hb.block b hlt).trans h2,qzd3 h3 hb,h4⟩
 rcases h with h|h
 ·exact .inl (each _ h)
 ·exact .inr (each _ h)
theorem qb36:Go.Proofs.Lays.n166 prog qdrb:={qsyr with}
theorem qqfh:Go.Proofs.Lays.n169 prog qdrb:={qsyr with}
theorem q6cc(b:Nat)(l m:List UInt8)(W:World)(h:SbAt b l W)(hl:l.length+m.length<=140737488355328) :
 Calls prog 137 #[.pointer (some ⟨b,0,none⟩),.string (bs m)] W fun e W'=>e=.returned (.tuple #[.int .i64 (m.length:Nat),.nilIface])/\SbAt b (l++m) W'/\Below b W W':=by
 have c:=Any.Builder_WriteString qb36 q4jg b b (Lib.byteCells l) (bs m) W h (by rw[Lib.byteCells_length,q5zk];exact hl) (Nat.le_of_lt h.lt);refine c.mono fun e W' ⟨h1,h2,h3⟩=>⟨?_,.inr ?_,h3⟩
 ·rw[h1,q5zk]
 ·rw[Lib.byteCells_append];exact h2
theorem q0vh(b:Nat)(l:List UInt8)(W:World)(h:SbAt b l W) :
 Calls prog 140 #[.pointer (some ⟨b,0,none⟩)] W fun e W'=>e=.returned (.string (bs l))/\Below b W W':=
 Any.Builder_String_any qqfh q4jg b b l W h (Nat.le_of_lt h.lt)
end Go.Proofs.YtefmhbioggcfaaaGreatDoor
