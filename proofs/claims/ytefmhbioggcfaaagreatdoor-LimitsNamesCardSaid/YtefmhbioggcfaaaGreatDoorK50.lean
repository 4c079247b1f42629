/- A law's stream; the packets that it told. No condition. -/
import Derived.Test.YtefmhbioggcfaaaGreatDoorK48
import Derived.Test.YtefmhbioggcfaaaGreatDoorK49
set_option maxRecDepth 100000
set_option maxHeartbeats 4000000
namespace Go.Proofs.YtefmhbioggcfaaaGreatDoor
open Lib(hid)
open Proofs.Tryz
open Go.RowKit
structure StL(w:World)(g:Nat)(v:Int)(m:Nat)(kv:Value)(K:List UInt8)(z k t e:Nat)(W:World):Prop where
 low:Below w.heap.size w W
 gw:w.heap.size<=g
 st:StrS W g v m kv K z k t e
 kw:∀b,kv.ownBlock=some b->w.heap.size<=b
structure Hold(B:Nat)(kv:Value)(A:Option Addr)(l:List Pa)(W:World):Prop where
 pk:PKL W A l
 fit:∀q∈l,FitM q.1
 nb:∀q∈l,∀i,q10u q.1 q.2 i->B<=i/\kv.ownBlock≠some i
 na:l≠[]->∀i j,A=some ⟨i,j,none⟩->B<=i/\kv.ownBlock≠some i
section
variable{w W W':World}{g m z k t e B:Nat}{v:Int}{kv kv':Value}{K:List UInt8}{R:List Pk×List UInt8×Nat×Nat}{E:Ending}{A:Option Addr}{l:List Pa}
theorem StrS.kept(h:StrS W g v m kv K z k t e)(hs:W.heap.size<=W'.heap.size)(hb:∀i,i=g\/kv.ownBlock=some i->W'.heap[i]?=W.heap[i]?):StrS W' g v m kv K z k t e:=
 ⟨h.st.of_block (hb g (.inl rfl)),h.bf.moved fun b hk _=>hb b (.inr hk),h.kg,fun b hk=>Nat.lt_of_lt_of_le (h.kl b hk) hs,h.sz,h.er⟩
theorem StL.call(h:StL w g v m kv K z k t e W)(hb:Below W.heap.size W W'):StL w g v m kv K z k t e W':=
 ⟨qxh2 h.low hb,h.gw,h.st.kept hb.size fun i hi=>hb.block i (hi.elim (fun e=>e▸h.st.st.lt) (h.st.kl i)),h.kw⟩
theorem StL.draws(h:StL w g v m kv K z k t e W)(n:Nat):StL w g v m kv K z k t e (W.drewN n):=h.call (qnpu (Below.refl _ _) n)
theorem StK.below{w W W':World}{g:Nat}{o:Option Nat}(h:Below w.heap.size w W)(k:StK W W' g o)(hg:w.heap.size<=g)(ho:∀b,o=some b->w.heap.size<=b):Below w.heap.size w W':=
 ⟨k.os.trans h.os,k.tape.trans h.tape,k.output.trans h.output,Nat.le_trans h.size k.size,fun i hi=>(k.block i (Nat.lt_of_lt_of_le hi h.size) (by omega) (fun e=>by have:=ho i e;omega)).trans (h.block i hi)⟩
theorem StL.new{d:Int}(hn:qyzr w v (m:Int) d E W)(hok:(verH v&&limB (m:Int) d)=true):∃g,E=.returned (.tuple #[.pointer (some ⟨g,0,none⟩),.int .i64 0])/\StL w g v m (.slice none 0 0) [] 0 0 0 0 W:=by
 obtain⟨h1,-,h3⟩:=hn;obtain⟨g,he,hg,hs⟩:=h3 hok;rw[Int.toNat_natCast] at hs;have hver:verH v=true:=by rw[Bool.and_eq_true] at hok;exact hok.1
 refine⟨g,he,h1,hg,⟨hs,Buf.empty _,(fun e=>nomatch e),(fun b e=>nomatch e),fun _=>?_,fun h=>absurd rfl h⟩,(fun b e=>nomatch e)⟩;have hr:qday v []=(noH,0,3):=by rw[qwts,if_neg (by rw[hver];decide)]
 obtain⟨h1,h2⟩:=qdul (v:=v) (m:=m) (l:=[]) (by rw[hr];decide);exact⟨h2.symm,by rw[h1,hr]⟩
theorem Hold.kept(h:Hold B kv A l W)(hk:StK W W' g kv.ownBlock)(hn:NewB W kv.ownBlock kv'.ownBlock)(hg:g<B):Hold B kv' A l W':=by
 have hb:∀q∈l,∀i,q10u q.1 q.2 i->W'.heap[i]?=W.heap[i]? := fun q hq i hi=>hk.block i ((h.pk.each q hq).lists_lt hi) (by have:=(h.nb q hq i hi).1;omega) (h.nb q hq i hi).2;have hA:l≠[]->∀i j,A=some ⟨i,j,none⟩->i<W.heap.size:=fun hne i j hA=>by obtain⟨q,l',rfl⟩:=List.exists_cons_of_ne_nil hne;obtain⟨i',j',e,hl,-⟩:=h.pk.at (i:=0) (q:=q) rfl;rw[hA] at e;cases e;exact hl
 refine⟨⟨fun hne=>?_,fun q hq=>(h.pk.each q hq).moved hk.size (hb q hq)⟩,h.fit,fun q hq i hi=>⟨(h.nb q hq i hi).1,hn.ne ((h.pk.each q hq).lists_lt hi) (h.nb q hq i hi).2⟩,fun hne i j e=>⟨(h.na hne i j e).1,hn.ne (hA hne i j e) (h.na hne i j e).2⟩⟩;obtain⟨i,j,e,hl,hc⟩:=h.pk.cl hne;have hl0:l≠[]:=fun e2=>hne (by rw[e2];rfl);have hbl:=hk.block i hl (by have:=(h.na hl0 i j e).1;omega) (h.na hl0 i j e).2;exact⟨i,j,e,Nat.lt_of_lt_of_le hl hk.size,fun n u hu=>(World.cell?_of_block (a:=⟨i,j+n,none⟩) hbl).trans (hc n u hu)⟩
theorem Hold.below(h:Hold B kv A l W)(hb:Below W.heap.size W W'):Hold B kv A l W':=⟨h.pk.below hb,h.fit,h.nb,h.na⟩
theorem Hold.kind(h:Hold B kv A l W){p:Pk}(hl:l.map (·.1)=[p]):l.length=1/\∃i j,A=some ⟨i,j,none⟩/\W.cell? ⟨i,j,none⟩=some (.int .i64 p.kind):=by
 obtain⟨q,rfl⟩:∃q,l=[q]:=by
  cases l with
  |nil=>cases hl
  |cons q l=>cases l with
   |nil=>exact⟨q,rfl⟩
   |cons r l=>cases hl
 have hq:q.1=p:=by simpa using hl
 obtain⟨i,j,e,-,hc⟩:=h.pk.at (i:=0) (q:=q) rfl;refine⟨rfl,i,j,e,?_⟩
 have:=hc 0 (.int .i64 q.1.kind) rfl
 rw[hq] at this;simpa using this
end
structure LsG(w:World)(x:Value)(G:List Pa)(W:World):Prop where
 low:Below w.heap.size w W
 ow:W.ownsRow w.heap.size 38 25 x G.length (pkCs G)
 pk:∀q∈G,PkAt W q.1 q.2/\FitM q.1/\∀i,q10u q.1 q.2 i->w.heap.size<=i/\x.ownBlock≠some i
section
variable{w W W':World}{x x':Value}{G:List Pa}{q:Pa}
theorem LsG.kept(h:LsG w x G W)(hb:Below W.heap.size W W'):LsG w x G W':=by refine⟨qxh2 h.low hb,?_,fun q hq=>⟨(h.pk q hq).1.below hb,(h.pk q hq).2⟩⟩;exact h.ow.kept (row:=none) ⟨hb.os,hb.tape,hb.output,hb.size,fun k hk _=>hb.block k hk⟩ (by cases x.ownBlock<;>simp)
theorem LsG.app(h:LsG w x G W)(p1:PkAt W q.1 q.2)(p2:FitM q.1)(p3:∀i,q10u q.1 q.2 i->w.heap.size<=i/\x.ownBlock≠some i)(ho:W'.ownsRow w.heap.size 38 25 x' (G.length+1) (pkCs G++(pkC q.1 q.2).toList))(hg:W.grownBy W' x.ownBlock)(hn:x'.ownBlock=x.ownBlock\/x'.ownBlock=some W.heap.size):LsG w x' (G++[q]) W':=by
 have hxg:∀i,x.ownBlock=some i->w.heap.size<=i:=fun i hi=>(h.ow.lt i hi).1;have ne:∀i,x.ownBlock≠some i->i<W.heap.size->x'.ownBlock≠some i:=fun i h1 h2=>by
  rcases hn with e|e
  ·rw[e];exact h1
  ·rw[e];intro e2;have:=Option.some.inj e2;omega
 refine⟨h.low.grown hg h.low.size hxg,?_,fun r hr=>?_⟩
 ·rw[q0mi,List.length_append];have e:pkCs [q]=(pkC q.1 q.2).toList:=by simp[pkCs]
  rw[e];exact ho
 ·have hr2:PkAt W r.1 r.2/\FitM r.1/\∀i,q10u r.1 r.2 i->w.heap.size<=i/\x.ownBlock≠some i:=by
   rcases List.mem_append.1 hr with hr|hr
   ·exact h.pk r hr
   ·obtain rfl:r=q:=by simpa using hr
    exact⟨p1,p2,p3⟩
  obtain⟨p1,p2,p3⟩:=hr2;exact⟨p1.moved hg.size fun i hi=>hg.block i (p1.lists_lt hi) (fun e=>(p3 i hi).2 e.symm),p2,fun i hi=>⟨(p3 i hi).1,ne i (p3 i hi).2 (p1.lists_lt hi)⟩⟩
end
def qvq5(w:World)(ps:List Pk)(n e:Nat)(E:Ending)(W:World):Prop:=
 ∃A c l,E=.returned (.tuple #[.slice A l.length c,.int .i64 (n:Nat),.int .i64 (e:Nat)])/\l.map (·.1)=ps/\Hold w.heap.size (.slice none 0 0) A l W/\Below w.heap.size w W
theorem LsG.ret{w w1 W:World}{x:Value}{G:List Pa}(h:LsG w1 x G W)(hb:Below w.heap.size w w1)(n e:Nat):qvq5 w (G.map (·.1)) n e (.returned (.tuple #[x,.int .i64 (n:Nat),.int .i64 (e:Nat)])) W:=by obtain⟨A,c,hx,-,hcl,hnew⟩:=CL.owned h.ow (q6wm G);refine⟨A,c,G,by rw[hx],rfl,⟨⟨hcl,fun q hq=>(h.pk q hq).1⟩,fun q hq=>(h.pk q hq).2.1,fun q hq i hi=>⟨Nat.le_trans hb.size ((h.pk q hq).2.2 i hi).1,fun e=>nomatch e⟩,fun hne i j e=>⟨Nat.le_trans hb.size (hnew i j e),fun e=>nomatch e⟩⟩,hb.trans (h.low.mono hb.size)⟩
theorem qven(v m d:Int)(w:World):Calls prog 18 #[.int .i64 v,.agg #[.int .i64 m,.int .i64 d]] w fun E W=>E=.returned (.int .i64 (if (verH v&&limB m d)=true then 0 else 2))/\Below w.heap.size w W:=by
 have NW:=hid (fun W=>qn5h v m d W);have L0:=hid (qybm (w:=w) (.cells #[.int .i64 m,.int .i64 d] 24));obtain⟨q,hq⟩:∃q:Int,(if (verH v&&limB m d)=true then 0 else 2)=q:=⟨_,rfl⟩
 rw[hq];have HQ:=hid hq;clear hq
 go_in
 go_wp2_with fail;refine(NW.out _).mono ?_;intro e1 W1 hn;obtain⟨hb,h0,h1⟩:=hn;have B1:=hid (qxh2 L0.out hb);cases hok:(verH v&&limB m d) with
 |false=>obtain rfl:=h0 hok;have h:=HQ.out;rw[hok,if_neg (by decide)] at h;have HH:=hid h;clear hb h0 h1 h hok;go_wp2;go_ret;exact⟨by rw[<-HH.out];rfl,B1.out⟩
 |true=>obtain⟨g,rfl,-,-⟩:=h1 hok;have h:=HQ.out;rw[hok,if_pos rfl] at h;have HH:=hid h;clear hb h0 h1 h hok;go_wp2;go_ret;exact⟨by rw[<-HH.out];rfl,B1.out⟩
theorem qh1a(v m d:Int)(s:ByteArray)(w:World)(hok:(verH v&&limB m d)=false) :
 Calls prog 6 #[.int .i64 v,.agg #[.int .i64 m,.int .i64 d],.string s] w fun E W=>E=.returned (.tuple #[.slice none 0 0,.int .i64 0,.int .i64 2])/\Below w.heap.size w W:=by
 have ck:=fun W=>qven v m d W;rw[hok,if_neg (by decide)] at ck;have CK:=hid ck;have L0:=hid (qybm (w:=w) (.cells #[.int .i64 m,.int .i64 d] 24));clear ck hok
 go_in
 go_wp2_with fail;refine(CK.out _).mono ?_;rintro e1 W1 ⟨rfl,hb⟩;have B1:=hid (qxh2 L0.out hb);clear hb;go_wp2
 go_ret3
 exact⟨rfl,B1.out⟩
theorem qtuf(v:Int)(m:Nat)(d:Int)(s:ByteArray)(w:World)(hok:(verH v&&limB m d)=true)(hs:s.size<=3000) :
 Calls prog 6 #[.int .i64 v,.agg #[.int .i64 (m:Nat),.int .i64 d],.string s] w (qvq5 w (goW v m s.data.toList).1 (goW v m s.data.toList).2.2.1 (goW v m s.data.toList).2.2.2):=by
 obtain⟨i0,hi,hz0,hz1,hz2⟩:=info_parts qbcq;have HZ:=hid qbwp;have ck:=fun W=>qven v m d W;rw[hok,if_pos rfl] at ck;have CK:=hid ck;have hm:16<=m/\m<=1048576:=by
  rw[Bool.and_eq_true] at hok
  have:=hok.2
  unfold limB at this;simp at this;omega
 have HM:=hid (And.intro hm hs);have L0:=hid (qybm (w:=w) (.cells #[.int .i64 m,.int .i64 d] 24));have R0:=hid (heap_alloc_new w (.cells #[.int .i64 m,.int .i64 d] 24));obtain⟨R,hR⟩:∃R,goW v m s.data.toList=R:=⟨_,rfl⟩
 rw[hR];have HR:=hid hR;have hl:s.data.toList.length=s.size:=(q4ad s).symm;have HSL:=hid hl;clear ck hok hm hs hR hl
 go_in
 go_wp2_with fail;refine(CK.out _).mono ?_;rintro e1 w1 ⟨rfl,hb⟩;have B1:=hid (qxh2 L0.out hb);have R1:=hid ((hb.block _ (lt_of_block R0.out)).trans R0.out);have T0:=hid (show LsG w1 (.slice none 0 0) [] w1 from⟨Below.refl _ _,World.ownsRow_nil _ _ _ _,fun q hq=>nomatch hq⟩);clear hb CK L0 R0;go_wp2_with fail
 go_loopg [6,7] s.size (fun gk s6 s7 wr=>∃(n:Nat) (x:Value) (G:List Pa),gk=s.size-n/\x=s6/\s7=.int .i64 (n:Nat)/\n<=s.size/\G.length<=n/\LsG w1 x G wr/\
  R=(G.map (·.1)++(goW v m (s.data.toList.drop n)).1,(goW v m (s.data.toList.drop n)).2.1,n+(goW v m (s.data.toList.drop n)).2.2.1,(goW v m (s.data.toList.drop n)).2.2.2))
 case atStart=>exact⟨0,_,[],rfl,rfl,rfl,Nat.zero_le _,Nat.le_refl _,T0.out,by rw[List.drop_zero,HR.out];simp⟩
 case round=>
  obtain⟨n,x,G,rfl,rfl,rfl,hn,hG,hS,hgo⟩:=hrel;clear T0;obtain⟨u,hu⟩:∃u,s.extract n s.size=u:=⟨_,rfl⟩
  have hul:u.data.toList=s.data.toList.drop n:=by
   have:=q31q s n (s.size-n)
   rw[show n+(s.size-n)=s.size by omega] at this;rw[<-hu,this,qkd1,List.take_of_length_le (by rw[List.length_drop,HSL.out];exact Nat.le_refl _)]
  have hus:u.size<=3000:=by rw[q4ad,hul,List.length_drop,HSL.out];have:=HM.out.2;omega
  have RD:=fun W=>qq1p v m u W (by omega) HM.out.1.2 (qp1j (by rw[<-q4ad];omega));rw[hul] at RD;obtain⟨⟨P,i,q⟩,hN⟩:∃N,q7ku v m (s.data.toList.drop n)=N:=⟨_,rfl⟩
  rw[hN] at RD;unfold quht at RD;simp only at RD;have HG:=hid (And.intro hG hn);have HS:=hid hS;have HGO:=hid hgo;have HN:=hid hN;have RD:=hid RD;have R1r:=hid ((hS.low.block _ (lt_of_block R1.out)).trans R1.out);clear hG hS hgo hN hul hus
  go_upto_region 4 with fail
  refine qp9u (S:=BoR w1 wr P) (g:=w.heap.size) (n:=n) (v:=v) (m:=(m:Nat)) (i:=(i:Nat)) (q:=(q:Nat)) (s:=s) (u:=u) (P:=P) (BoR.start HS.out.low.size) hn hu
   (fun x W' h=>(World.cell?_of_block (a:=⟨w.heap.size,0,none⟩) (h.low.block _ (lt_of_block R1r.out))).trans (cell_of_row _ _ 0 _ _ _ R1r.out))
   (fun x W' h h1 h2=>(RD.out W').mono fun e W3 ⟨a,he,hp,hf,hb,fr⟩=>⟨a,he,h.got h1 h2 hb hp hf fr⟩) (fun x W' h h1 h2=>h.boxed h1 h2) (fun a b W' h=>h.stored) ?_
  intro a b W3 hB;obtain⟨-,D0,hrow,-,h3⟩:=hB.box b rfl;obtain⟨a',e,rfl⟩:=h3 rfl;cases e;obtain⟨p1,p2,p3⟩:=hB.pk a rfl;have S3:=HS.out.kept hB.low;have p4:∀j,q10u P a j->w1.heap.size<=j/\x.ownBlock≠some j:=fun j hj=>⟨Nat.le_trans HS.out.low.size (p3.lists hj),fun e=>by have:=p3.lists hj;have:=(HS.out.ow.lt j e).2;omega⟩
  have hD1:=qwmp P a;have hD2:=qmz0 P a;have hN:=HN.out;have hgo:=HGO.out;obtain⟨hG,hn'⟩:=HG.out;have hm3:=HM.out.2;by_cases h0:q=0
  ·subst h0;have hsz:=qdsm (v:=v) (m:=m) (l:=s.data.toList.drop n) (by rw[hN]);rw[hN] at hsz;simp only at hsz;obtain⟨b1,b2,-,-⟩:=hsz;rw[List.length_drop,HSL.out] at b2;rw[q6ca (by rw[hN]),hN] at hgo;simp only[List.drop_drop] at hgo;have SA:=hid (S3.kept (qybm (.cells (pkC P a) 38)));have PK2:=hid (p1.below (qybm (w:=W3) (.cells (pkC P a) 38)));have CB:=hid (fun(j:Nat) (u:Value) (hj:(pkC P a).toList[j]?=some u)=>(show(W3.alloc (.cells (pkC P a) 38)).cell? ((⟨W3.heap.size,0,none⟩:Addr).add j)=some u by rw[Addr.add_lit,Nat.zero_add];exact(cell_of_row _ _ j _ _ _ (heap_alloc_new W3 _)).trans (by simpa using hj)))
   obtain⟨D,hD⟩:∃D,pkC P a=D:=⟨_,rfl⟩
   rw[hD] at hD1 hD2 hrow SA PK2 CB ⊢;have HD:=hid hD;have HD1:=hid hD1;have HD2:=hid hD2;have HBX:=hid hrow;have PQ:=hid (And.intro p2 p4);have HH:=hid (And.intro hgo (And.intro b1 b2));have hni:(n:Int)+(i:Int)<=3000:=by omega
   clear p1 p2 p3 p4 S3 hD hD1 hD2 hrow hB h3 hN hgo hG hn hn' b1 b2 RD HN HGO HS R1r hu hm3;dsimp only;go_wp2_with (first
    |(refine wpList_load_row rfl _ _ rfl b rfl 38 D (0,0) _ HBX.out underlying38 rfl (by rw[HD1.out];exact q5nr) ?_)
    |(refine wpList_buildSlice rfl 25 38 1 _ rfl D i0 (.agg pkZ) underlying25 hi hz0 (by rw[hz1];decide) (by rw[hz1];decide) (by rw[hz1,<-HD.out];kernel_rfl) ?_)
    |(at_builtin;refine wpList_append_own_at _ rfl _ _ 25 rfl w1.heap.size 38 i0 (.agg pkZ) 25 312 underlying25 hi hz0 hz1 hz2 rfl (by decide) _ _ _ rfl SA.out.ow ⟨W3.heap.size,0,none⟩ 1 1 D.toList rfl ?c0 CB.out ?c1 ?c2 ?c3 SA.out.low.size ?_))
   case c0=>rw[Array.length_toList,HD1.out]
   case c1=>exact fun u hu=>(Array.all_eq_true'.1 HD2.out) u (by simpa using hu)
   case c2=>have:=HG.out;have:=HM.out.2;simp only[maxLen];omega
   case c3=>have:=HG.out;have:=HM.out.2;omega
   intro x' W4 ho hg _ hor;rw[<-HD.out] at ho;have S4:=hid (SA.out.app (q:=(P,a)) PK2.out PQ.out.1 PQ.out.2 ho hg (by rw[World.size_alloc];exact hor));clear ho hg hor SA PK2 CB;go_wp2_with fail
   go_roundg (s.size-(n+i))
   case measure=>have:=HH.out.2;omega
   case rel=>
    refine⟨n+i,x',G++[(P,a)],rfl,rfl,?_,by have:=HH.out.2;have:=HG.out;omega,?_,S4.out,?_⟩
    ·first|go_num|exact congrArg (Value.int IntKind.i64) (by unfold wrap64;omega)
    ·rw[List.length_append,List.length_singleton];have:=HH.out.2;have:=HG.out;omega
    ·rw[HH.out.1,List.map_append];simp[Nat.add_assoc]
  ·have RET:=fun(ps:List Pk) (k e:Nat) (hR:R.1=G.map (·.1)) (hk:R.2.2.1=n) (he:R.2.2.2=e)=>(show qvq5 w R.1 R.2.2.1 R.2.2.2 (.returned (.tuple #[x,.int .i64 (n:Nat),.int .i64 (e:Nat)])) W3 from by rw[hR,hk,he];exact S3.ret B1.out n e)
   by_cases hq3:q=3
   ·subst hq3;rw[qc57 (by rw[hN])] at hgo;have FIN:=hid (RET [] 0 0 (by rw[hgo];simp) (by rw[hgo];rfl) (by rw[hgo]));dsimp only;generalize pkC P a=D at *;clear p1 p2 p3 p4 S3 hD1 hD2 hrow hB h3 hN hgo hG hn hn' RD HN HGO HS R1r hu hm3 RET h0;go_wp2
    go_ret3
    exact FIN.out
   ·rw[qcgl (by rw[hN];exact hq3) (by rw[hN];exact h0),hN] at hgo;have FIN:=hid (RET [] 0 q (by rw[hgo];simp) (by rw[hgo];rfl) (by rw[hgo]));have e0:((q:Int)==0)=false:=by simp;omega
    have e3:((q:Int)==3)=false:=by simp;omega
    dsimp only;generalize pkC P a=D at *;clear p1 p2 p3 p4 S3 hD1 hD2 hrow hB h3 hN hgo hG hn hn' RD HN HGO HS R1r hu hm3 RET h0 hq3;go_wp2
    go_ret3
    exact FIN.out
theorem qnpd(m d:Int)(w:World):Calls prog 7 #[.agg #[.int .i64 m,.int .i64 d]] w fun E W=>E=.returned (.int .i64 (if limB m d=true then 0 else 2))/\Below w.heap.size w W:=by
 have ck:=fun W=>qven 4 m d W;rw[show verH 4=true from rfl,Bool.true_and] at ck;obtain⟨q,hq⟩:∃q:Int,(if limB m d=true then 0 else 2)=q:=⟨_,rfl⟩
 rw[hq] at ck ⊢;have CK:=hid ck;have L0:=hid (qybm (w:=w) (.cells #[.int .i64 m,.int .i64 d] 24));clear ck hq
 go_in
 go_wp2_with fail;refine(CK.out _).mono ?_;rintro e1 W1 ⟨rfl,hb⟩;have B1:=hid (qxh2 L0.out hb);clear hb;go_wp2;go_ret;exact⟨rfl,B1.out⟩
theorem qffa(w:World):Calls prog 8 #[] w fun E W=>E=.returned (.agg #[.int .i64 1048576,.int .i64 32])/\Below w.heap.size w W:=by
 go_in
 go_wp2_with fail;exact q7wi (cs:=#[.int .i64 1048576,.int .i64 32]) rfl rfl rfl underlying24 rfl (by kernel_rfl) (heap_alloc_new w _) ⟨rfl,qybm _⟩
theorem qjdq(v:Int)(p:Pk)(s:List UInt8)(f:Nat)(h:qk4b v p=(s,f))(h1:p.wProps=[]/\p.codes=[]/\p.filters=[]/\p.props=[])(ok:PkOk p)(hq:-9223372036854775808<=p.wQos/\p.wQos<=9223372036854775807)(W:World) :
 Calls prog 20 #[.int .i64 v,.agg (pkC p adZ)] W fun e w'=>e=.returned (.tuple #[.int .i64 (s.length:Nat),.int .i64 (f:Nat)])/\Below W.heap.size W w':=by
 have:=qjcp v p adZ W (qx9v p W h1) ⟨by rw[h1.2.1];decide,by rw[h1.2.2.1];decide,by rw[h1.2.2.2];decide,by rw[h1.1];decide⟩ ok ⟨by rw[h1.2.2.2];exact Nat.zero_le _,fun _=>⟨by rw[h1.2.2.2];exact Nat.zero_le _,by rw[h1.1];exact Nat.zero_le _,hq⟩⟩
 rw[h] at this;exact this
theorem qh0y(v m d:Int)(p:Pk)(s:List UInt8)(f:Nat)(r:Bool)(hl:limB m d=true)(h:qk4b v p=(s,f))(hr:(if f=0 then decide ((s.length:Int)<=m) else false)=r)(h1:p.wProps=[]/\p.codes=[]/\p.filters=[]/\p.props=[])(ok:PkOk p)(hq:-9223372036854775808<=p.wQos/\p.wQos<=9223372036854775807)(w:World) :
 Calls prog 9 #[.int .i64 v,.agg #[.int .i64 m,.int .i64 d],.agg (pkC p adZ)] w fun E W=>E=.returned (.bool r)/\Below w.heap.size w W:=by
 have ck:=fun W=>qnpd m d W;rw[hl,if_pos rfl] at ck;have CK:=hid ck;have SZ:=hid (fun W=>qjdq v p s f h h1 ok hq W);have hD1:=qwmp p adZ;have L0:=qybm (w:=w) (.cells #[.int .i64 m,.int .i64 d] 24);have R0:=heap_alloc_new w (.cells #[.int .i64 m,.int .i64 d] 24);obtain⟨D,hD⟩:∃D,pkC p adZ=D:=⟨_,rfl⟩
 rw[hD] at SZ hD1 ⊢;have L1:=hid (qxh2 L0 (qybm (.cells D 38)));have R1:=hid ((heap_alloc_old _ (.cells D 38) (lt_of_block R0)).trans R0);have P1:=hid (heap_alloc_new (w.alloc (.cells #[.int .i64 m,.int .i64 d] 24)) (.cells D 38));have HD1:=hid hD1;obtain⟨n,hn⟩:∃n,s.length=n:=⟨_,rfl⟩
 rw[hn] at SZ hr;have HR:=hid hr;clear ck h h1 ok hq hl hD1 L0 R0 hD hn hr
 go_in
 go_wp2_with fail;refine(CK.out _).mono ?_;rintro e1 W1 ⟨rfl,hb⟩;have B1:=hid (qxh2 L1.out hb);have R2:=hid ((hb.block _ (lt_of_block R1.out)).trans R1.out);have P2:=hid ((hb.block _ (lt_of_block P1.out)).trans P1.out);rw[World.size_alloc] at P2;clear hb L1 R1 P1 CK;go_wp2_with (refine wpList_load_row rfl _ _ rfl (w.heap.size+1) rfl 38 D (0,0) _ P2.out underlying38 rfl (by rw[HD1.out];exact q5nr) ?_);refine(SZ.out _).mono ?_;rintro e2 W2 ⟨rfl,hb⟩;have B2:=hid (qxh2 B1.out hb);have R3:=(hb.block _ (lt_of_block R2.out)).trans R2.out;have k0:W2.cell? ⟨w.heap.size,0,none⟩=some (.int .i64 m):=cell_of_row _ _ 0 _ _ _ R3;have hr:=HR.out;clear hb R2 P2 SZ B1 R3;by_cases h0:f=0
 ·subst h0;rw[if_pos rfl] at hr;have HR:=hid hr;clear hr;go_wp2;go_ret;exact⟨by rw[<-HR.out];rfl,B2.out⟩
 ·rw[if_neg h0] at hr;have g1:((f:Int)==0)=false:=by simp;omega
  have HR:=hid hr;clear hr h0;go_wp2;go_ret;exact⟨by rw[<-HR.out];rfl,B2.out⟩
end Go.Proofs.YtefmhbioggcfaaaGreatDoor
