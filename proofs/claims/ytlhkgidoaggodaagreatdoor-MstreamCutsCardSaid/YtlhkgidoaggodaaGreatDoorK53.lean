/- A law's stream; the packets that it told; lives. No condition. -/
import Derived.Test.YtlhkgidoaggodaaGreatDoorK51
import Derived.Test.YtlhkgidoaggodaaGreatDoorK52
set_option maxRecDepth 100000
set_option maxHeartbeats 4000000
namespace Go.Proofs.YtlhkgidoaggodaaGreatDoor
open Lib(hid)
open Proofs.Tryz
open Go.RowKit
structure StL(w:World)(g:Nat)(v:Int)(m:Nat)(kv:Value)(K:List UInt8)(z k t e:Nat)(W:World):Prop where
 low:Below w.heap.size w W
 gw:w.heap.size<=g
 st:StrS W g v m kv K z k t e
 kw:∀b,kv.ownBlock=some b->w.heap.size<=b
structure Hold(B:Nat)(kv:Value)(A:Option Addr)(l:List Pa)(W:World):Prop where
 pk:PKL W A l
 fit:∀q∈l,FitM q.1
 nb:∀q∈l,∀i,q10u q.1 q.2 i->B<=i/\kv.ownBlock≠some i
 na:l≠[]->∀i j,A=some ⟨i,j,none⟩->B<=i/\kv.ownBlock≠some i
section
variable{w W W':World}{g m z k t e B:Nat}{v:Int}{kv kv':Value}{K:List UInt8}{R:List Pk×List UInt8×Nat×Nat}{E:Ending}{A:Option Addr}{l:List Pa}
theorem StrS.kept(h:StrS W g v m kv K z k t e)(hs:W.heap.size<=W'.heap.size)(hb:∀i,i=g\/kv.ownBlock=some i->W'.heap[i]?=W.heap[i]?):StrS W' g v m kv K z k t e:=
 ⟨h.st.of_block (hb g (.inl rfl)),h.bf.moved fun b hk _=>hb b (.inr hk),h.kg,fun b hk=>Nat.lt_of_lt_of_le (h.kl b hk) hs,h.sz,h.er⟩
theorem StL.call(h:StL w g v m kv K z k t e W)(hb:Below W.heap.size W W'):StL w g v m kv K z k t e W':=
 ⟨qxh2 h.low hb,h.gw,h.st.kept hb.size fun i hi=>hb.block i (hi.elim (fun e=>e▸h.st.st.lt) (h.st.kl i)),h.kw⟩
theorem StL.draws(h:StL w g v m kv K z k t e W)(n:Nat):StL w g v m kv K z k t e (W.drewN n):=h.call (qnpu (Below.refl _ _) n)
theorem StK.below{w W W':World}{g:Nat}{o:Option Nat}(h:Below w.heap.size w W)(k:StK W W' g o)(hg:w.heap.size<=g)(ho:∀b,o=some b->w.heap.size<=b):Below w.heap.size w W':=
 ⟨k.os.trans h.os,k.tape.trans h.tape,k.output.trans h.output,Nat.le_trans h.size k.size,fun i hi=>(k.block i (Nat.lt_of_lt_of_le hi h.size) (by omega) (fun e=>by have:=ho i e;omega)).trans (h.block i hi)⟩
theorem NewB.ge{o o':Option Nat}(h:NewB W o o')(hw:w.heap.size<=W.heap.size)(ho:∀b,o=some b->w.heap.size<=b):∀b,o'=some b->w.heap.size<=b:=fun b e=>by
 rcases h with h|h|⟨j,h,hj⟩
 ·exact ho b (h▸e)
 ·rw[h] at e;cases e
 ·rw[h] at e;have:=Option.some.inj e;omega
theorem StL.new{d:Int}(hn:qyzr w v (m:Int) d E W)(hok:(verH v&&limB (m:Int) d)=true):∃g,E=.returned (.tuple #[.pointer (some ⟨g,0,none⟩),.int .i64 0])/\StL w g v m (.slice none 0 0) [] 0 0 0 0 W:=by
 obtain⟨h1,-,h3⟩:=hn;obtain⟨g,he,hg,hs⟩:=h3 hok;rw[Int.toNat_natCast] at hs;have hver:verH v=true:=by rw[Bool.and_eq_true] at hok;exact hok.1
 refine⟨g,he,h1,hg,⟨hs,Buf.empty _,(fun e=>nomatch e),(fun b e=>nomatch e),fun _=>?_,fun h=>absurd rfl h⟩,(fun b e=>nomatch e)⟩;have hr:qday v []=(noH,0,3):=by rw[qwts,if_neg (by rw[hver];decide)]
 obtain⟨h1,h2⟩:=qdul (v:=v) (m:=m) (l:=[]) (by rw[hr];decide);exact⟨h2.symm,by rw[h1,hr]⟩
theorem StL.fed(h:StL w g v m kv K z k t e W)(hr:qmjm W g v m kv k t R E W'):∃A c l kv' z',E=.returned (.tuple #[.slice A l.length c,.int .i64 (R.2.2.2:Nat)])/\l.map (·.1)=R.1/\l.length<=c/\StL w g v m kv' R.2.1 z' (k+R.2.2.1) (t+R.1.length) R.2.2.2 W'/\Hold W.heap.size kv' A l W'/\
 StK W W' g kv.ownBlock/\NewB W kv.ownBlock kv'.ownBlock:=by
 obtain⟨A,c,l,kv',z',he,h1,h2,h3,h4,h5,h6,h7,h8,h9⟩:=hr;exact⟨A,c,l,kv',z',he,h1,h2,⟨h8.below h.low h.gw h.kw,h.gw,h7,h9.ge h.low.size h.kw⟩,⟨h3,h4,h5,fun _=>h6⟩,h8,h9⟩
theorem Hold.kept(h:Hold B kv A l W)(hk:StK W W' g kv.ownBlock)(hn:NewB W kv.ownBlock kv'.ownBlock)(hg:g<B):Hold B kv' A l W':=by
 have hb:∀q∈l,∀i,q10u q.1 q.2 i->W'.heap[i]?=W.heap[i]? := fun q hq i hi=>hk.block i ((h.pk.each q hq).lists_lt hi) (by have:=(h.nb q hq i hi).1;omega) (h.nb q hq i hi).2;have hA:l≠[]->∀i j,A=some ⟨i,j,none⟩->i<W.heap.size:=fun hne i j hA=>by obtain⟨q,l',rfl⟩:=List.exists_cons_of_ne_nil hne;obtain⟨i',j',e,hl,-⟩:=h.pk.at (i:=0) (q:=q) rfl;rw[hA] at e;cases e;exact hl
 refine⟨⟨fun hne=>?_,fun q hq=>(h.pk.each q hq).moved hk.size (hb q hq)⟩,h.fit,fun q hq i hi=>⟨(h.nb q hq i hi).1,hn.ne ((h.pk.each q hq).lists_lt hi) (h.nb q hq i hi).2⟩,fun hne i j e=>⟨(h.na hne i j e).1,hn.ne (hA hne i j e) (h.na hne i j e).2⟩⟩;obtain⟨i,j,e,hl,hc⟩:=h.pk.cl hne;have hl0:l≠[]:=fun e2=>hne (by rw[e2];rfl);have hbl:=hk.block i hl (by have:=(h.na hl0 i j e).1;omega) (h.na hl0 i j e).2;exact⟨i,j,e,Nat.lt_of_lt_of_le hl hk.size,fun n u hu=>(World.cell?_of_block (a:=⟨i,j+n,none⟩) hbl).trans (hc n u hu)⟩
theorem Hold.below(h:Hold B kv A l W)(hb:Below W.heap.size W W'):Hold B kv A l W':=⟨h.pk.below hb,h.fit,h.nb,h.na⟩
theorem Hold.kind(h:Hold B kv A l W){p:Pk}(hl:l.map (·.1)=[p]):l.length=1/\∃i j,A=some ⟨i,j,none⟩/\W.cell? ⟨i,j,none⟩=some (.int .i64 p.kind):=by
 obtain⟨q,rfl⟩:∃q,l=[q]:=by
  cases l with
  |nil=>cases hl
  |cons q l=>cases l with
   |nil=>exact⟨q,rfl⟩
   |cons r l=>cases hl
 have hq:q.1=p:=by simpa using hl
 obtain⟨i,j,e,-,hc⟩:=h.pk.at (i:=0) (q:=q) rfl;refine⟨rfl,i,j,e,?_⟩
 have:=hc 0 (.int .i64 q.1.kind) rfl
 rw[hq] at this;simpa using this
end
theorem qchb(w:World):Calls prog 8 #[] w fun e w'=>e=.returned (.agg #[.int .i64 64,.int .i64 0])/\Below w.heap.size w w':=by
 go_in
 go_wp2_with fail;exact q7wi (cs:=#[.int .i64 64,.int .i64 0]) rfl rfl rfl underlying28 rfl (by kernel_rfl) (heap_alloc_new w _) ⟨rfl,qybm _⟩
theorem StL.feeds{w W:World}{g m z k t e:Nat}{v:Int}{kv:Value}{K:List UInt8}(h:StL w g v m kv K z k t e W)(s:ByteArray)(hm:m<=1048576)(hm16:16<=m)(hs:s.size<=60000)(hK:K.length<=10000)(hk:k<=100000000000)(ht:t<=100000000000) :
 Calls prog 10 #[.pointer (some ⟨g,0,none⟩),.string s] W (qmjm W g v m kv k t (fedS v m e K s.data.toList)):=
 q9wl h.st s hm hm16 (by omega) hk ht fun l hl=>qp1j (by omega)
theorem q1mo(w:World):Calls prog 6 #[] w fun e w'=>e=.returned (.bool true)/\Below w.heap.size w w':=by
 have LM:=hid (qchb w);have NW:=hid (fun W=>qn5h 4 (64:Nat) 0 W)
 go_in
 go_wp2_with fail;refine LM.out.mono ?_;rintro e0 W0 ⟨rfl,hb0⟩;have B0:=hid hb0;clear hb0;go_wp2_with fail;refine(NW.out _).mono ?_;intro e1 W1 hn;obtain⟨g,rfl,S1⟩:=StL.new hn (by decide);have F1:=S1.feeds ⟨#[192]⟩ (by decide) (by decide) (by decide) (by decide) (by decide) (by decide);rw[show fedS 4 64 0 [] (⟨#[192]⟩:ByteArray).data.toList=([],[192],0,0) by decide+kernel] at F1;have S1:=hid S1;have F1:=hid F1;clear hn;go_wp2_with fail;refine F1.out.mono ?_;intro e2 W2 hr;obtain⟨A1,c1,l1,kv2,z2,rfl,m1,n1,S2,H1,K1,N1⟩:=S1.out.fed hr;obtain rfl:l1=[]:=List.map_eq_nil_iff.1 m1;have F2:=S2.feeds ⟨#[0,208]⟩ (by decide) (by decide) (by decide) (by simp) (by simp) (by simp);simp only[List.length_nil] at S2 F2;rw[show fedS 4 64 0 [192] (⟨#[0,208]⟩:ByteArray).data.toList=([{Pk.zero with kind:=12}],[208],2,0) by decide+kernel] at F2;have S2:=hid S2;have F2:=hid F2;clear hr m1 n1 H1 K1 N1 S1 F1;go_wp2_with fail;refine F2.out.mono ?_;intro e3 W3 hr;obtain⟨A2,c2,l2,kv3,z3,rfl,m2,n2,S3,H2,K2,N2⟩:=S2.out.fed hr;have F3:=S3.feeds ⟨#[0]⟩ (by decide) (by decide) (by decide) (by simp) (by simp) (by simp);rw[show fedS 4 64 0 [208] (⟨#[0]⟩:ByteArray).data.toList=([{Pk.zero with kind:=13}],[],2,0) by decide+kernel] at F3;have HG:=hid (show g<W2.heap.size from S2.out.st.st.lt);have S3:=hid S3;have F3:=hid F3;have H2:=hid H2;have M2:=hid m2;clear hr m2 n2 K2 N2 S2 F2;go_wp2_with fail;refine F3.out.mono ?_;intro e4 W4 hr;obtain⟨A3,c3,l3,kv4,z4,rfl,m3,n3,S4,H3,K3,N3⟩:=S3.out.fed hr;obtain⟨a1,i2,j2,rfl,k2⟩:=(H2.out.kept K3 N3 HG.out).kind M2.out;obtain⟨a2,i3,j3,rfl,k3⟩:=H3.kind m3;have BL:=hid (qxh2 B0.out S4.low);rw[a1,a2];clear hr m3 n3 S4 H3 K3 N3 S3 F3 H2 M2;go_wp2;go_ret;exact⟨rfl,BL.out⟩
section
variable{w w0 W W':World}{g m z k t e f B:Nat}{v:Int}{o:Option Nat}{kv kv' x x':Value}{K:List UInt8}{G l:List Pa}{A:Option Addr}
theorem TlS.apps(h:TlS w g v m o f kv K z k t e x G W)(hq:∀q∈l,PkW w f kv x W q)(ho:W'.ownsRow w.heap.size 40 25 x' (G.length+l.length) (pkCs G++pkCs l))(hg:W.grownBy W' x.ownBlock)(hn:x'.ownBlock=x.ownBlock\/x'.ownBlock=some W.heap.size)(hf:f<W.heap.size):TlS w g v m o f kv K z k t e x' (G++l) W':=by
 have hxg:∀i,x.ownBlock=some i->w.heap.size<=i:=fun i hi=>(h.ow.lt i hi).1;have ne:∀i,x.ownBlock≠some i->i<W.heap.size->x'.ownBlock≠some i:=fun i h1 h2=>by
  rcases hn with e|e
  ·rw[e];exact h1
  ·rw[e];intro e2;have:=Option.some.inj e2;omega
 refine⟨h.lt,⟨hg.os.trans h.kp.os,hg.tape.trans h.kp.tape,hg.output.trans h.kp.output,Nat.le_trans h.kp.size hg.size,fun i hi h1 h2=>(hg.block i (Nat.lt_of_lt_of_le hi h.kp.size) (fun e=>by have:=hxg i e.symm;omega)).trans (h.kp.block i hi h1 h2)⟩,h.nb,
  h.st.of_block (hg.block g h.st.lt (fun e=>by have:=hxg g e.symm;have:=h.lt;omega)),h.bf.moved fun b hb hl=>hg.block b hl (fun e=>h.xk b e.symm hb),h.kg,h.kf,fun b hb=>Nat.lt_of_lt_of_le (h.kl b hb) hg.size,?_,ne f h.xf hf,fun i hi hk=>?_,fun r hr=>?_⟩
 ·rw[q0mi,List.length_append];exact ho
 ·exact ne i (fun e=>h.xk i e hk) (h.kl i hk) hi
 ·have hr2:PkW w f kv x W r:=(List.mem_append.1 hr).elim (h.pk r) (hq r);obtain⟨p1,p2,p3⟩:=hr2;exact⟨p1.moved hg.size fun i hi=>hg.block i (p1.lists_lt hi) (fun e=>(p3 i hi).2.1 e.symm),p2,fun i hi=>⟨(p3 i hi).1,ne i (p3 i hi).2.1 (p1.lists_lt hi),(p3 i hi).2.2⟩⟩
theorem TlS.gather(h:TlS w g v m o g kv K z k t e x G W){R:List Pk×List UInt8×Nat×Nat}{E:Ending}(hr:qmjm W g v m kv k t R E W')(hG:G.length+R.1.length<=1000000) :
 ∃A c l kv' z' x' W2,E=.returned (.tuple #[.slice A l.length c,.int .i64 (R.2.2.2:Nat)])/\l.map (·.1)=R.1/\
  (Builtin.append_ #[31,31] 31 #[x,.slice A l.length c]).run prog W'=.ok x' W2/\
  TlS w g v m o g kv' R.2.1 z' (k+R.2.2.1) (t+R.1.length) R.2.2.2 x' (G++l) W2/\(R.2.2.2=0->z'=qexp v m R.2.1/\(q7ku v m R.2.1).2.2=3):=by
 obtain⟨A,c,l,kv',z',rfl,h1,h2,h3,h4,h5,h6,h7,h8,h9⟩:=hr;have hlen:R.1.length=l.length:=by rw[<-h1,List.length_map]
 have T1:=h.upd h8 h7.st h7.bf h9 h7.kl h.st.lt;obtain⟨i0,hi,hz0,hz1,hz2⟩:=info_parts qbcq;have hxb:∀i,x.ownBlock=some i->i<W.heap.size:=fun i hi=>(h.ow.lt i hi).2;by_cases hl:l=[]
 ·subst hl;have hR1:R.1=[]:=by simpa using h1.symm
  obtain⟨A',c',hx,hc',-⟩:=CL.owned h.ow (q6wm G);refine⟨A,c,[],kv',z',x,W',rfl,h1,?_,?_,h7.sz⟩
  ·rw[hx];refine run_append_nothing W' 31 31 31 40 i0 underlying31 hi A' G.length c' hc' _ ?_;cases A with
   |none=>exact Src.ofNil W' underlying31 c
   |some a=>exact Src.ofSlice W' underlying31 a 0 c [] (by simp) (fun j u hu=>by simp at hu) (fun u hu=>nomatch hu)
  ·rw[List.append_nil];exact T1
 ·have hpne:pkCs l≠[]:=fun e=>hl (by
   have:=q6wm l
   rw[e] at this;exact List.length_eq_zero_iff.1 (by simp at this;omega))
  obtain⟨i,j,rfl,hlt,hcells⟩:=h3.cl hpne;obtain⟨x',W2,hrun,ho,hg,-,hor⟩:=run_append_own_at (P:=prog) W' w.heap.size 31 31 40 i0 (.agg pkZ) 25 312 underlying31 hi hz0 hz1 hz2 rfl (by decide) x G.length (pkCs G) T1.ow ⟨i,j,none⟩ l.length c (pkCs l) (q6wm l)
   (fun n u hu=>by rw[Addr.add_lit];exact hcells n u hu) (qck1 l) (by simp only[maxLen];omega) (by omega) T1.kp.size
  refine⟨_,c,l,kv',z',x',W2,rfl,h1,hrun,T1.apps (fun q hq=>⟨h3.each q hq,h4 q hq,fun n hn=>?_⟩) ho hg hor T1.st.lt,h7.sz⟩;obtain⟨a1,a2⟩:=h5 q hq n hn;refine⟨Nat.le_trans h.kp.size a1,fun e=>?_,a2,fun e=>?_⟩
  ·have:=hxb n e;omega
  ·have:=h.st.lt;omega
end
theorem qh8b{v:Int}{m:Nat}{P c:List UInt8}:fedS v m (goW v m P).2.2.2 (goW v m P).2.1 c=(if (goW v m P).2.2.2≠0 then([],(goW v m P).2.1,0,(goW v m P).2.2.2) else goW v m ((goW v m P).2.1++c))/\
 goW v m (P++c)=((goW v m P).1++(fedS v m (goW v m P).2.2.2 (goW v m P).2.1 c).1,(fedS v m (goW v m P).2.2.2 (goW v m P).2.1 c).2.1,(goW v m P).2.2.1+(fedS v m (goW v m P).2.2.2 (goW v m P).2.1 c).2.2.1,(fedS v m (goW v m P).2.2.2 (goW v m P).2.1 c).2.2.2):=by
 have h:=qszy (v:=v) (m:=m) c _ P (Nat.le_refl _);refine⟨rfl,?_⟩;unfold fedS;rw[h];split
 ·simp
 ·rfl
theorem q0ah(v:Int)(m:Nat)(K C:List UInt8):fedS v m 0 K C=goW v m (K++C):=by unfold fedS;rw[if_neg (by simp)]
theorem qmug(v a b:Int)(s:ByteArray)(A:Option Addr)(n c:Nat)(w:World)(hbig:3000<s.size\/60<n) :
 Calls prog 4 #[.int .i64 v,.agg #[.int .i64 a,.int .i64 b],.string s,.slice A n c] w fun e w'=>e=.returned (.bool true)/\Below w.heap.size w w':=by
 have LV:=hid (q1mo (w.alloc (.cells #[.int .i64 a,.int .i64 b] 28)));have L0:=hid (qybm (w:=w) (.cells #[.int .i64 a,.int .i64 b] 28));by_cases h1:3000<s.size
 ·have g1:decide ((3000:Int)<(s.size:Int))=true:=decide_eq_true (by omega);clear hbig h1
  go_in
  go_wp2_with fail;refine LV.out.mono ?_;rintro e0 W0 ⟨rfl,hb0⟩;have B0:=hid (qxh2 L0.out hb0);clear hb0;go_wp2;go_ret;exact⟨rfl,B0.out⟩
 ·have g1:decide ((3000:Int)<(s.size:Int))=false:=decide_eq_false (by omega);have g2:decide ((60:Int)<(n:Int))=true:=decide_eq_true (by have:=hbig.resolve_left h1;omega);have h2:60<n:=hbig.resolve_left h1;clear hbig
  go_in
  go_wp2_with fail;refine LV.out.mono ?_;rintro e0 W0 ⟨rfl,hb0⟩;have B0:=hid (qxh2 L0.out hb0);clear hb0;go_wp2;go_ret;exact⟨rfl,B0.out⟩
def CutL(w:World)(g:Nat)(v:Int)(m:Nat)(CH:List (List UInt8))(j:Nat)(x:Value)(e:Nat)(W:World):Prop:=
 ∃(P:List UInt8) (kv:Value) (K:List UInt8) (z k:Nat) (G:List Pa),TlS w g v m none g kv K z k G.length e x G W/\P=(CH.take j).flatten/\j<=CH.length/\goW v m P=(G.map (·.1),K,k,e)/\(e=0->z=qexp v m K/\(q7ku v m K).2.2=3)
theorem qngg{CH:List (List UInt8)}{j:Nat}(h:j<CH.length):(CH.take (j+1)).flatten=(CH.take j).flatten++CH.getD j []/\(CH.take j).flatten.length+(CH.getD j []).length<=CH.flatten.length:=by
 have e:(CH.take (j+1)).flatten=(CH.take j).flatten++CH.getD j []:=by rw[List.take_succ_eq_append_getElem h,List.flatten_append];simp[List.getD,List.getElem?_eq_getElem h]
 refine⟨e,?_⟩
 have:=congrArg (fun l=>(List.flatten l).length) (List.take_append_drop (j+1) CH)
 simp only[List.flatten_append,List.length_append] at this;rw[e,List.length_append] at this;omega
theorem CutL.step{w W':World}{g m j:Nat}{v:Int}{CH:List (List UInt8)}{P K:List UInt8}{k e z':Nat}{G l:List Pa}{kv' x':Value}{R:List Pk×List UInt8×Nat×Nat}(hP:P=(CH.take j).flatten)(hj:j<CH.length)(hg:goW v m P=(G.map (·.1),K,k,e))(hR:fedS v m e K (CH.getD j [])=R)(hl:l.map (·.1)=R.1)
 (hs:TlS w g v m none g kv' R.2.1 z' (k+R.2.2.1) (G.length+R.1.length) R.2.2.2 x' (G++l) W') (hz:R.2.2.2=0->z'=qexp v m R.2.1/\(q7ku v m R.2.1).2.2=3):CutL w g v m CH (j+1) x' R.2.2.2 W':=by
 have hm:=(qh8b (v:=v) (m:=m) (P:=P) (c:=CH.getD j [])).2;rw[hg] at hm;simp only[hR] at hm;refine⟨_,kv',R.2.1,z',k+R.2.2.1,G++l,?_,rfl,hj,?_,hz⟩
 ·rw[List.length_append,show l.length=R.1.length by rw[<-hl,List.length_map]];exact hs
 ·rw[(qngg hj).1,<-hP,hm,List.map_append,hl]
theorem qrd5(v a b:Int)(s:ByteArray)(A:Option Addr)(n c:Nat)(zs:List Int)(w:World)(hc:0<n->∃a,A=some a/\a.block<w.heap.size/\∀i,i<n->w.cell? (a.add i)=some (.int .i64 (zs.getD i 0))) :
 Calls prog 4 #[.int .i64 v,.agg #[.int .i64 a,.int .i64 b],.string s,.slice A n c] w fun e w'=>e=.returned (.bool true)/\Below w.heap.size w w':=by
 by_cases hbig:3000<s.size\/60<n
 ·exact qmug v a b s A n c w hbig
 have LV:=hid (q1mo (w.alloc (.cells #[.int .i64 a,.int .i64 b] 28)));have L0:=hid (qybm (w:=w) (.cells #[.int .i64 a,.int .i64 b] 28));have R0:=hid (heap_alloc_new w (.cells #[.int .i64 a,.int .i64 b] 28));have HC:=hid hc;have hs6:¬3000<s.size:=by omega
 have hn6:¬60<n:=by omega
 have HS6:=hid (And.intro hs6 hn6);clear hbig hc;cases hok:(verH v&&limB a b) with
 |false=>
  have NW:=hid (fun W=>qn5h v a b W)
  go_in
  go_wp2_with fail;refine LV.out.mono ?_;rintro e0 W0 ⟨rfl,hb0⟩;have B0:=hid (qxh2 L0.out hb0);have l0:W0.cell? ⟨w.heap.size,0,none⟩=some (.int .i64 a):=(World.cell?_of_block (a:=⟨w.heap.size,0,none⟩) (hb0.block _ (by simp))).trans (cell_of_row _ _ 0 _ _ _ R0.out);have l1:W0.cell? ⟨w.heap.size,1,none⟩=some (.int .i64 b):=(World.cell?_of_block (a:=⟨w.heap.size,1,none⟩) (hb0.block _ (by simp))).trans (cell_of_row _ _ 1 _ _ _ R0.out);have hz0:w.heap.size<W0.heap.size:=by have:=hb0.size;rw[World.size_alloc] at this;omega
  clear hb0;go_wp2_with fail;refine(NW.out _).mono ?_;rintro e1 W1 ⟨hb1,h2,-⟩;obtain rfl:=h2 hok;have B1:=hid (qxh2 B0.out hb1);have k0:W1.cell? ⟨w.heap.size,0,none⟩=some (.int .i64 a):=(World.cell?_of_block (a:=⟨w.heap.size,0,none⟩) (hb1.block _ hz0)).trans l0;have k1:W1.cell? ⟨w.heap.size,1,none⟩=some (.int .i64 b):=(World.cell?_of_block (a:=⟨w.heap.size,1,none⟩) (hb1.block _ hz0)).trans l1;clear hb1 h2 l0 l1 hz0;go_wp2_with fail;refine(NW.out _).mono ?_;rintro e1 W2 ⟨hb1,h2,-⟩;obtain rfl:=h2 hok;have B2:=hid (qxh2 B1.out hb1);clear hb1 h2 k0 k1;go_wp2;go_ret;exact⟨rfl,B2.out⟩
 |true=>
  obtain⟨m,rfl⟩:∃m:Nat,a=(m:Int):=⟨a.toNat,by
   rw[Bool.and_eq_true] at hok
   have:=hok.2
   unfold limB at this;simp at this;omega⟩
  have hver:verH v=true:=by rw[Bool.and_eq_true] at hok;exact hok.1
  have hm:16<=m/\m<=1048576:=by
   rw[Bool.and_eq_true] at hok
   have:=hok.2
   unfold limB at this;simp at this;omega
  have NW:=hid (fun W=>qn5h v (m:Int) b W);have HM:=hid hm;have HV:=hid hver;clear hm hver
  go_in
  go_wp2_with fail;refine LV.out.mono ?_;rintro e0 W0 ⟨rfl,hb0⟩;have B0:=hid (qxh2 L0.out hb0);have l0:W0.cell? ⟨w.heap.size,0,none⟩=some (.int .i64 m):=(World.cell?_of_block (a:=⟨w.heap.size,0,none⟩) (hb0.block _ (by simp))).trans (cell_of_row _ _ 0 _ _ _ R0.out);have l1:W0.cell? ⟨w.heap.size,1,none⟩=some (.int .i64 b):=(World.cell?_of_block (a:=⟨w.heap.size,1,none⟩) (hb0.block _ (by simp))).trans (cell_of_row _ _ 1 _ _ _ R0.out);have hz0:w.heap.size<W0.heap.size:=by have:=hb0.size;rw[World.size_alloc] at this;omega
  clear hb0;go_wp2_with fail;refine(NW.out _).mono ?_;intro e1 W1 hn;obtain⟨g1,rfl,SA⟩:=StL.new hn hok;have k0:W1.cell? ⟨w.heap.size,0,none⟩=some (.int .i64 m):=(World.cell?_of_block (a:=⟨w.heap.size,0,none⟩) (SA.low.block _ hz0)).trans l0;have k1:W1.cell? ⟨w.heap.size,1,none⟩=some (.int .i64 b):=(World.cell?_of_block (a:=⟨w.heap.size,1,none⟩) (SA.low.block _ hz0)).trans l1;have SA:=hid SA;have LC:=hid (And.intro hz0 l0);clear hn l0 l1 hz0;go_wp2_with fail;refine(NW.out _).mono ?_;intro e2 W2 hn;obtain⟨g2,rfl,SB⟩:=StL.new hn hok;have SA2:=SA.out.call SB.low;have hg12:g1<g2:=Nat.lt_of_lt_of_le SA.out.st.st.lt SB.gw;have F1:=SA2.feeds s HM.out.2 HM.out.1 (by omega) (by decide) (by decide) (by decide);rw[q0ah,List.nil_append] at F1;have SB:=hid SB;have SA2:=hid SA2;have F1:=hid F1;have HG:=hid hg12;clear hn SA k0 k1 hg12;go_wp2_with fail;refine F1.out.mono ?_;intro e3 W3 hr;obtain⟨A1,c1,l1,kvA,zA,rfl,m1,hlc1,SA3,H1,KA,NA⟩:=SA2.out.fed hr;have SB3:StrS W3 g2 v m (.slice none 0 0) [] 0 0 0 0:=SB.out.st.kept KA.size fun i hi=>KA.block i (hi.elim (fun e=>e▸SB.out.st.st.lt) (fun e=>nomatch e)) (hi.elim (fun e=>by have:=HG.out;omega) (fun e=>nomatch e)) (fun e=>nomatch e);have hby:0<n->∃a,A=some a/\a.block<W3.heap.size/\∀i,i<n->W3.cell? (a.add i)=some (.int .i64 (zs.getD i 0)):=fun h0=>by
   obtain⟨a,e,hb,hcl⟩:=HC.out h0;have LW:=qxh2 B0.out SA3.low;refine⟨a,e,Nat.lt_of_lt_of_le hb LW.size,fun i hi=>?_⟩
   have:(a.add i).block=a.block:=by obtain⟨b,o,s⟩:=a;unfold Addr.add;split<;>rfl
   exact(World.cell?_of_block (a:=a.add i) (by rw[this];exact LW.block _ hb)).trans (hcl i hi)
  have CT:=hid (qv2k s A n c zs W3 (by omega) (by omega) hby);obtain⟨CH,hCH⟩:∃CH,cutK s.data.toList (qbmb n zs)=CH:=⟨_,rfl⟩
  have hflat:CH.flatten=s.data.toList:=by rw[<-hCH];exact qugl _ _
  have hchl:CH.length=n+1:=by rw[<-hCH,qo7x];simp[qbmb]
  rw[hCH] at CT;have hg1:=SA2.out.st.st.lt;have hg2:=SB.out.st.st.lt;have lc3:W3.cell? ⟨w.heap.size,0,none⟩=some (.int .i64 m):=(World.cell?_of_block (a:=⟨w.heap.size,0,none⟩) (SA3.low.block _ LC.out.1)).trans LC.out.2;have hwg:w.heap.size<g2:=by have:=LC.out.1;have:=SA2.out.gw;have:=HG.out;omega
  have HCH:=hid (And.intro hflat hchl);have SA3:=hid SA3;have H1:=hid H1;have M1:=hid m1;have HLC:=hid hlc1;have HGG:=hid (And.intro hg1 (And.intro hg2 (And.intro hwg (show g2<W3.heap.size from SB3.st.lt))));have LC3:=hid lc3;have HNA:=hid NA;have SB3:=hid SB3;clear hr m1 hlc1 KA NA hby hCH hflat hchl hg1 hg2 hwg lc3 F1;go_wp2_with fail;refine CT.out.mono ?_;rintro e4 W4 ⟨A4,c4,rfl,sr4,hb4,hn4⟩;obtain⟨R,hR⟩:∃R,goW v m s.data.toList=R:=⟨_,rfl⟩
  rw[hR] at SA3 M1;simp only[Nat.zero_add] at SA3;have HR:=hid hR;have SB4:StrS W4 g2 v m (.slice none 0 0) [] 0 0 0 0:=SB3.out.kept hb4.size fun i hi=>hb4.block i (hi.elim (fun e=>by have:=HGG.out.2.1;have:=SA3.out.low;have:=SB3.out.st.lt;omega) (fun e=>nomatch e));have hg24:g2<W4.heap.size:=SB4.st.lt;have T0:CutL W4 g2 v m CH 0 (.slice none 0 0) 0 W4:=by refine⟨[],.slice none 0 0,[],0,0,[],⟨hg24,StK.refl _ _ _,.inl rfl,SB4.st,SB4.bf,SB4.kg,SB4.kg,SB4.kl,World.ownsRow_nil _ _ _ _,(fun e=>nomatch e),(fun i hi=>nomatch hi),(fun q hq=>nomatch hq)⟩,rfl,Nat.zero_le _,?_,SB4.sz⟩;exact qc57 (SB4.sz rfl).2
  have HT0:=hid T0;have HSR:=hid (And.intro sr4 (And.intro hb4 hn4));clear SB4 hg24 T0 sr4 hb4 hn4 hR CT;go_wp2_with fail;rw[HR.out];obtain⟨L,hL⟩:∃L,CH.length=L:=⟨_,rfl⟩
  have HL:=hid hL;rw[hL];clear hL
  go_loopg [15,16,18,19] L (fun gk s15 s16 s18 s19 wr=>∃(j:Nat) (x:Value) (e:Nat),gk=L-j/\x=s15/\s16=.int .i64 (e:Nat)/\s18=.int .i64 (j:Int)/\CutL W4 g2 v m CH j x e wr)
  case atStart=>exact⟨0,_,0,rfl,rfl,rfl,rfl,HT0.out⟩
  case round=>
   obtain⟨j,x,e,rfl,rfl,rfl,rfl,P,kv,K,z,k,G,hT,hP,hj,hgo,hz⟩:=hrel;clear HT0;have hPl:P.length<=3000/\G.length<=P.length/\K.length+k<=P.length:=by have h1:=qqsp (v:=v) (m:=m) _ P (Nat.le_refl _);rw[hgo] at h1;simp only[List.length_map] at h1;have h2:=congrArg (fun l=>(List.flatten l).length) (List.take_append_drop j CH);simp only[List.flatten_append,List.length_append] at h2;rw[<-hP,HCH.out.1,<-q4ad] at h2;omega
   have hStr:StrS wr g2 v m kv K z k G.length e:=⟨hT.st,hT.bf,hT.kg,hT.kl,hz,fun h0=>by
    have:=qlnb (v:=v) (m:=m) _ P (Nat.le_refl _)
    rw[hgo] at this;exact this h0⟩
   rw[HL.out] at hj;by_cases hlt:j<L
   ·have hjl:j<CH.length:=by rw[HL.out];exact hlt
    obtain⟨i,o,rfl,hi4,hcell⟩:=HSR.out.1 (fun e=>by rw[e] at hjl;simp at hjl);have hck:wr.cell? ⟨i,o+j,none⟩=some (.string (bs (CH.getD j []))):=(World.cell?_of_block (a:=⟨i,o+j,none⟩) (hT.kp.block i hi4 (by have:=HSR.out.2.2 i o rfl;have:=HGG.out.2.1;have:=SA3.out.low;have:=SB3.out.st.lt;omega) (fun e=>nomatch e))).trans (hcell j hjl);obtain⟨ct1,ct2⟩:=qngg hjl;rw[<-hP,HCH.out.1,<-q4ad] at ct2;have FD:=q9wl hStr (bs (CH.getD j [])) HM.out.2 HM.out.1 (by rw[q5zk];omega) (by omega) (by omega) (fun l hl=>qp1j (by rw[q5zk] at hl;omega));rw[qkd1] at FD;obtain⟨R',hR'⟩:∃R',fedS v m e K (CH.getD j [])=R':=⟨_,rfl⟩
    rw[hR'] at FD;have hRl:R'.1.length<=10000:=by have hm:=(qh8b (v:=v) (m:=m) (P:=P) (c:=CH.getD j [])).2;rw[hgo] at hm;simp only[hR'] at hm;have h1:=qqsp (v:=v) (m:=m) _ (P++CH.getD j []) (Nat.le_refl _);rw[hm] at h1;simp only[List.length_append,List.length_map] at h1;omega
    have HH:=hid (And.intro hP (And.intro hjl (And.intro hgo (And.intro hR' (And.intro hPl hRl)))));have HT:=hid hT;have FD:=hid FD;have HLT:=hid hlt;generalize bs (CH.getD j [])=cs at *;clear hT hP hj hgo hz hPl hStr hjl hi4 hcell ct1 ct2 hR' hRl;go_wp2_with fail;refine FD.out.mono ?_;intro e5 W5 hr;obtain⟨A5,c5,l5,kv5,z5,x5,W6,rfl,m5,hrun,T5,hz5⟩:=HT.out.gather hr (by have:=HH.out;omega);have NEW:=hid (fun n:Nat=>CutL.step (W':=W6.drewN n) HH.out.1 HH.out.2.1 HH.out.2.2.1 HH.out.2.2.2.1 m5 (T5.call (qnpu (Below.refl W6.heap.size W6) n)) hz5);have hq:R'.2.1.length<m:=by have hk:=qwuz (v:=v) HM.out.1 _ (P++CH.getD j []) (Nat.le_refl _);have hm:=(qh8b (v:=v) (m:=m) (P:=P) (c:=CH.getD j [])).2;rw[HH.out.2.2.1] at hm;simp only[HH.out.2.2.2.1] at hm;rw[hm] at hk;exact hk
    have hlen:(G++l5).length=G.length+R'.1.length:=by rw[List.length_append,<-m5,List.length_map]
    obtain⟨Ax,cx,hx5,-,-,-⟩:=CL.owned T5.ow (q6wm _);obtain⟨Ak,ck,hk5,-,-⟩:=id T5.bf;have QK:∀n,Calls prog 12 #[.pointer (some ⟨g2,0,none⟩)] (W6.drewN n) fun e W=>e=.returned (.int .i64 (R'.2.1.length:Nat))/\∃j,W=W6.drewN j:=fun n=>by have h:=T5.st;rw[hk5] at h;exact q5mf (qozv (w:=W6.drewN n) h)
    have QT:∀n,Calls prog 13 #[.pointer (some ⟨g2,0,none⟩)] (W6.drewN n) fun e W=>e=.returned (.int .i64 ((G++l5).length:Nat))/\∃j,W=W6.drewN j:=fun n=>by rw[hlen];exact q5mf (q2kk (w:=W6.drewN n) T5.st)
    have lc6:W6.cell? ⟨w.heap.size,0,none⟩=some (.int .i64 m):=by have h4:w.heap.size<W3.heap.size:=Nat.lt_trans HGG.out.2.2.1 HGG.out.2.2.2;have h5:w.heap.size<W4.heap.size:=Nat.lt_of_lt_of_le h4 HSR.out.2.1.size;exact(World.cell?_of_block (a:=⟨w.heap.size,0,none⟩) (T5.kp.block _ h5 (show w.heap.size≠g2 by have:=HGG.out;omega) (fun e=>nomatch e))).trans ((World.cell?_of_block (a:=⟨w.heap.size,0,none⟩) (HSR.out.2.1.block _ h4)).trans LC3.out)
    have M5:=hid m5;obtain⟨q,hq'⟩:∃q,R'.2.1.length=q:=⟨_,rfl⟩
    obtain⟨y,hy⟩:∃y,(G++l5).length=y:=⟨_,rfl⟩
    rw[hq'] at hq QK;rw[hy] at hx5 QT;obtain⟨e',he'⟩:∃e',R'.2.2.2=e':=⟨_,rfl⟩
    rw[he'];have HE:=hid he';have HX:=hid hx5;have QK:=hid QK;have QT:=hid QT;have g1':decide ((m:Int)-1<(q:Int))=false:=decide_eq_false (by omega);have hm1:(m:Int)<=1048576:=by have:=HM.out.2;omega
    have hm0:(16:Int)<=(m:Int):=by have:=HM.out.1;omega
    have hqm:¬(m:Int)-1<(q:Int):=by omega
    rw[hx5] at hrun;clear hr T5 m5 hz5 hq hlen hk5 hq' hy he' hx5;go_wp2_with (at_builtin;refine qrfq rfl _ _ _ _ rfl rfl rfl hrun ?_);go_quiet (first|(go_at_call 12;exact QK.out _)|(go_at_call 13;exact QT.out _));go_wp2_with fail
    go_roundg (L-(j+1))
    case measure=>have:=HLT.out;omega
    case rel=>
     refine⟨j+1,_,_,rfl,rfl,rfl,?_,?_⟩
     ·first|go_num|exact congrArg (Value.int IntKind.i64) (by have:=HCH.out.2;have:=HL.out;have:=HLT.out;unfold wrap64;omega)
     ·rw[<-HX.out,<-HE.out];exact NEW.out _
   ·obtain rfl:j=L:=by omega
    have hPs:P=s.data.toList:=by rw[hP,<-HL.out,List.take_length,HCH.out.1]
    rw[hPs,HR.out] at hgo;subst hgo;simp only at M1 SA3;have hsA:StrS W4 g1 v m kvA K zA k (G.map (·.1)).length e:=SA3.out.st.kept HSR.out.2.1.size fun i hi=>HSR.out.2.1.block i (hi.elim (fun h=>h▸SA3.out.st.st.lt) (SA3.out.st.kl i));have hneA:∀i,i=g1\/kvA.ownBlock=some i->i<W4.heap.size/\i≠g2:=fun i hi=>by
     rcases hi with rfl|hi
     ·exact⟨hsA.st.lt,by have:=HG.out;omega⟩
     ·refine⟨hsA.kl i hi,?_⟩;rcases HNA.out with h|h|⟨i',h,h2⟩
      ·rw[h] at hi;cases hi
      ·rw[h] at hi;cases hi
      ·rw[h] at hi;have:=Option.some.inj hi;have:=HGG.out.2.1;omega
    have hsA2:StrS wr g1 v m kvA K zA k (G.map (·.1)).length e:=hsA.kept hT.kp.size fun i hi=>hT.kp.block i (hneA i hi).1 (hneA i hi).2 (fun h=>nomatch h);have pk1:PKL wr A1 l1:=by
     have h4:=H1.out.below HSR.out.2.1;have h5:Hold W2.heap.size (.slice none 0 0) A1 l1 W4:=⟨h4.pk,h4.fit,fun q hq i hi=>⟨(h4.nb q hq i hi).1,fun h=>nomatch h⟩,fun hne i j hA=>⟨(h4.na hne i j hA).1,fun h=>nomatch h⟩⟩
     exact(h5.kept (kv' := .slice none 0 0) hT.kp (.inl rfl) HGG.out.2.1).pk
    obtain⟨Ax,cx,hx,hcx,hcl,-⟩:=CL.owned hT.ow (q6wm G);have pk2:PKL wr Ax G:=⟨hcl,fun q hq=>(hT.pk q hq).1⟩
    have hl1:l1.length=G.length:=by have:=congrArg List.length M1.out;simpa using this
    have SP:=hid (qqev A1 Ax G.length c1 cx l1 G wr pk1 pk2 hl1 M1.out.symm (fun q hq=>(H1.out.fit q hq).2) (by omega));have VR:=hid (qzwz v wr);rw[HV.out] at VR;have hzz:qxh4 zA K.length e=qxh4 z K.length e:=by
     unfold qxh4;by_cases h0:e=0
     ·rw[(hsA2.sz h0).1,(hz h0).1]
     ·rw[if_pos h0,if_pos h0]
    have hKl:K.length<=1048576:=by omega
    rw[List.length_map] at hsA2;have HA:=hid hsA2;have HB:=hid hStr;have LW:=StK.below (qxh2 B0.out (qxh2 SA3.out.low HSR.out.2.1)) hT.kp (by have:=HGG.out;omega) (fun b e=>nomatch e);obtain⟨AK,cK,hkA,-,-⟩:=id hsA2.bf;obtain⟨BK,dK,hkB,-,-⟩:=id hStr.bf;have FA:∀W,Below wr.heap.size wr W->StrS W g1 v m (.slice AK K.length cK) K zA k G.length e:=fun W h=>by rw[<-hkA];exact hsA2.kept h.size fun i hi=>h.block i (hi.elim (fun e=>e▸hsA2.st.lt) (hsA2.kl i))
    have FB:∀W,Below wr.heap.size wr W->StrS W g2 v m (.slice BK K.length dK) K z k G.length e:=fun W h=>by rw[<-hkB];exact hStr.kept h.size fun i hi=>h.block i (hi.elim (fun e=>e▸hStr.st.lt) (hStr.kl i))
    have LWH:=hid LW;have NDA:=fun W h=>qmsv (FA W h).st (fun h0=>by rw[((FA W h).sz h0).1];exact Nat.le_trans (qvu1 _ _ _) HM.out.2) hKl;have NDB:=fun W h=>qmsv (FB W h).st (fun h0=>by rw[((FB W h).sz h0).1];exact Nat.le_trans (qvu1 _ _ _) HM.out.2) hKl;rw[hzz] at NDA;have FAH:=hid FA;have FBH:=hid FB;obtain⟨nd,hnd⟩:∃nd,qxh4 z K.length e=nd:=⟨_,rfl⟩
    rw[hnd] at NDA NDB;replace NDA:=hid NDA;replace NDB:=hid NDB;subst hx;simp only;generalize K.length=q at *;generalize G.length=y at *;rw[hl1];have hlt':¬j<j:=Nat.lt_irrefl j;clear hT hP hj hz hPl hStr hlt hPs hsA hneA hsA2 pk1 pk2 hcx hcl hl1 hzz hKl LW hkA hkB FA FB hnd H1 SA3 SB3 M1 HNA HSR;go_wp2_with fail;refine VR.out.mono ?_;rintro e5 W5 ⟨rfl,rfl⟩;go_wp2_with fail;refine SP.out.mono ?_;rintro e6 W6 ⟨rfl,hb6⟩;have A6:=hid (FAH.out _ hb6);have B6:=hid (FBH.out _ hb6);have E1:=hid (qzg4 A6.out.st);have E2:=hid (qzg4 B6.out.st);have T1:=hid (qxbb A6.out.st);have T2:=hid (qxbb B6.out.st);have K1:=hid (qozv A6.out.st);have K2:=hid (qozv B6.out.st);have N1:=hid (NDA.out W6 hb6);have N2:=hid (fun n=>NDB.out (W6.drewN n) (qnpu hb6 n));have LL:=hid (fun n=>qxh2 LWH.out (qnpu hb6 n));clear hb6;go_wp2_with fail;refine E1.out.mono ?_;rintro e7 W7 ⟨rfl,rfl⟩;go_wp2_with fail;refine E2.out.mono ?_;rintro e8 W8 ⟨rfl,rfl⟩;go_wp2_with fail;refine E1.out.mono ?_;rintro e9 W9 ⟨rfl,rfl⟩;go_wp2_with fail;refine T1.out.mono ?_;rintro e10 W10 ⟨rfl,rfl⟩;go_wp2_with fail;refine T2.out.mono ?_;rintro e11 W11 ⟨rfl,rfl⟩;go_wp2_with fail;refine K1.out.mono ?_;rintro e12 W12 ⟨rfl,rfl⟩;go_wp2_with fail;refine K2.out.mono ?_;rintro e13 W13 ⟨rfl,rfl⟩;go_wp2_with fail;refine N1.out.mono ?_;rintro e14 W14 ⟨rfl,j1,rfl⟩;go_wp2_with fail;refine(N2.out _).mono ?_;rintro e15 W15 ⟨rfl,j2,rfl⟩;have BL:=hid (LL.out (j1+j2));go_wp2;go_ret;exact⟨rfl,BL.out⟩
end Go.Proofs.YtlhkgidoaggodaaGreatDoor
