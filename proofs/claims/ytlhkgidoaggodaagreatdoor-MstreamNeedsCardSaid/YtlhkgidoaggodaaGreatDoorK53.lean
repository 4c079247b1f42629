/- A law's stream; the packets that it told; lives. No condition. -/
import Derived.Test.YtlhkgidoaggodaaGreatDoorK51
import Derived.Test.YtlhkgidoaggodaaGreatDoorK52
set_option maxRecDepth 100000
set_option maxHeartbeats 4000000
namespace Go.Proofs.YtlhkgidoaggodaaGreatDoor
open Lib(hid)
open Proofs.Tryz
open Go.RowKit
structure StL(w:World)(g:Nat)(v:Int)(m:Nat)(kv:Value)(K:List UInt8)(z k t e:Nat)(W:World):Prop where
 low:Below w.heap.size w W
 gw:w.heap.size<=g
 st:StrS W g v m kv K z k t e
 kw:∀b,kv.ownBlock=some b->w.heap.size<=b
structure Hold(B:Nat)(kv:Value)(A:Option Addr)(l:List Pa)(W:World):Prop where
 pk:PKL W A l
 fit:∀q∈l,FitM q.1
 nb:∀q∈l,∀i,q10u q.1 q.2 i->B<=i/\kv.ownBlock≠some i
 na:l≠[]->∀i j,A=some ⟨i,j,none⟩->B<=i/\kv.ownBlock≠some i
section
variable{w W W':World}{g m z k t e B:Nat}{v:Int}{kv kv':Value}{K:List UInt8}{R:List Pk×List UInt8×Nat×Nat}{E:Ending}{A:Option Addr}{l:List Pa}
theorem StrS.kept(h:StrS W g v m kv K z k t e)(hs:W.heap.size<=W'.heap.size)(hb:∀i,i=g\/kv.ownBlock=some i->W'.heap[i]?=W.heap[i]?):StrS W' g v m kv K z k t e:=
 ⟨h.st.of_block (hb g (.inl rfl)),h.bf.moved fun b hk _=>hb b (.inr hk),h.kg,fun b hk=>Nat.lt_of_lt_of_le (h.kl b hk) hs,h.sz,h.er⟩
theorem StL.call(h:StL w g v m kv K z k t e W)(hb:Below W.heap.size W W'):StL w g v m kv K z k t e W':=
 ⟨qxh2 h.low hb,h.gw,h.st.kept hb.size fun i hi=>hb.block i (hi.elim (fun e=>e▸h.st.st.lt) (h.st.kl i)),h.kw⟩
theorem StL.draws(h:StL w g v m kv K z k t e W)(n:Nat):StL w g v m kv K z k t e (W.drewN n):=h.call (qnpu (Below.refl _ _) n)
theorem StK.below{w W W':World}{g:Nat}{o:Option Nat}(h:Below w.heap.size w W)(k:StK W W' g o)(hg:w.heap.size<=g)(ho:∀b,o=some b->w.heap.size<=b):Below w.heap.size w W':=
 ⟨k.os.trans h.os,k.tape.trans h.tape,k.output.trans h.output,Nat.le_trans h.size k.size,fun i hi=>(k.block i (Nat.lt_of_lt_of_le hi h.size) (by omega) (fun e=>by have:=ho i e;omega)).trans (h.block i hi)⟩
theorem NewB.ge{o o':Option Nat}(h:NewB W o o')(hw:w.heap.size<=W.heap.size)(ho:∀b,o=some b->w.heap.size<=b):∀b,o'=some b->w.heap.size<=b:=fun b e=>by
 rcases h with h|h|⟨j,h,hj⟩
 ·exact ho b (h▸e)
 ·rw[h] at e;cases e
 ·rw[h] at e;have:=Option.some.inj e;omega
theorem StL.new{d:Int}(hn:qyzr w v (m:Int) d E W)(hok:(verH v&&limB (m:Int) d)=true):∃g,E=.returned (.tuple #[.pointer (some ⟨g,0,none⟩),.int .i64 0])/\StL w g v m (.slice none 0 0) [] 0 0 0 0 W:=by
 obtain⟨h1,-,h3⟩:=hn;obtain⟨g,he,hg,hs⟩:=h3 hok;rw[Int.toNat_natCast] at hs;have hver:verH v=true:=by rw[Bool.and_eq_true] at hok;exact hok.1
 refine⟨g,he,h1,hg,⟨hs,Buf.empty _,(fun e=>nomatch e),(fun b e=>nomatch e),fun _=>?_,fun h=>absurd rfl h⟩,(fun b e=>nomatch e)⟩;have hr:qday v []=(noH,0,3):=by rw[qwts,if_neg (by rw[hver];decide)]
 obtain⟨h1,h2⟩:=qdul (v:=v) (m:=m) (l:=[]) (by rw[hr];decide);exact⟨h2.symm,by rw[h1,hr]⟩
theorem StL.fed(h:StL w g v m kv K z k t e W)(hr:qmjm W g v m kv k t R E W'):∃A c l kv' z',E=.returned (.tuple #[.slice A l.length c,.int .i64 (R.2.2.2:Nat)])/\l.map (·.1)=R.1/\l.length<=c/\StL w g v m kv' R.2.1 z' (k+R.2.2.1) (t+R.1.length) R.2.2.2 W'/\Hold W.heap.size kv' A l W'/\
 StK W W' g kv.ownBlock/\NewB W kv.ownBlock kv'.ownBlock:=by
 obtain⟨A,c,l,kv',z',he,h1,h2,h3,h4,h5,h6,h7,h8,h9⟩:=hr;exact⟨A,c,l,kv',z',he,h1,h2,⟨h8.below h.low h.gw h.kw,h.gw,h7,h9.ge h.low.size h.kw⟩,⟨h3,h4,h5,fun _=>h6⟩,h8,h9⟩
theorem Hold.kept(h:Hold B kv A l W)(hk:StK W W' g kv.ownBlock)(hn:NewB W kv.ownBlock kv'.ownBlock)(hg:g<B):Hold B kv' A l W':=by
 have hb:∀q∈l,∀i,q10u q.1 q.2 i->W'.heap[i]?=W.heap[i]? := fun q hq i hi=>hk.block i ((h.pk.each q hq).lists_lt hi) (by have:=(h.nb q hq i hi).1;omega) (h.nb q hq i hi).2;have hA:l≠[]->∀i j,A=some ⟨i,j,none⟩->i<W.heap.size:=fun hne i j hA=>by obtain⟨q,l',rfl⟩:=List.exists_cons_of_ne_nil hne;obtain⟨i',j',e,hl,-⟩:=h.pk.at (i:=0) (q:=q) rfl;rw[hA] at e;cases e;exact hl
 refine⟨⟨fun hne=>?_,fun q hq=>(h.pk.each q hq).moved hk.size (hb q hq)⟩,h.fit,fun q hq i hi=>⟨(h.nb q hq i hi).1,hn.ne ((h.pk.each q hq).lists_lt hi) (h.nb q hq i hi).2⟩,fun hne i j e=>⟨(h.na hne i j e).1,hn.ne (hA hne i j e) (h.na hne i j e).2⟩⟩;obtain⟨i,j,e,hl,hc⟩:=h.pk.cl hne;have hl0:l≠[]:=fun e2=>hne (by rw[e2];rfl);have hbl:=hk.block i hl (by have:=(h.na hl0 i j e).1;omega) (h.na hl0 i j e).2;exact⟨i,j,e,Nat.lt_of_lt_of_le hl hk.size,fun n u hu=>(World.cell?_of_block (a:=⟨i,j+n,none⟩) hbl).trans (hc n u hu)⟩
theorem Hold.below(h:Hold B kv A l W)(hb:Below W.heap.size W W'):Hold B kv A l W':=⟨h.pk.below hb,h.fit,h.nb,h.na⟩
theorem Hold.kind(h:Hold B kv A l W){p:Pk}(hl:l.map (·.1)=[p]):l.length=1/\∃i j,A=some ⟨i,j,none⟩/\W.cell? ⟨i,j,none⟩=some (.int .i64 p.kind):=by
 obtain⟨q,rfl⟩:∃q,l=[q]:=by
  cases l with
  |nil=>cases hl
  |cons q l=>cases l with
   |nil=>exact⟨q,rfl⟩
   |cons r l=>cases hl
 have hq:q.1=p:=by simpa using hl
 obtain⟨i,j,e,-,hc⟩:=h.pk.at (i:=0) (q:=q) rfl;refine⟨rfl,i,j,e,?_⟩
 have:=hc 0 (.int .i64 q.1.kind) rfl
 rw[hq] at this;simpa using this
end
theorem qchb(w:World):Calls prog 8 #[] w fun e w'=>e=.returned (.agg #[.int .i64 64,.int .i64 0])/\Below w.heap.size w w':=by
 go_in
 go_wp2_with fail;exact q7wi (cs:=#[.int .i64 64,.int .i64 0]) rfl rfl rfl underlying28 rfl (by kernel_rfl) (heap_alloc_new w _) ⟨rfl,qybm _⟩
theorem StL.feeds{w W:World}{g m z k t e:Nat}{v:Int}{kv:Value}{K:List UInt8}(h:StL w g v m kv K z k t e W)(s:ByteArray)(hm:m<=1048576)(hm16:16<=m)(hs:s.size<=60000)(hK:K.length<=10000)(hk:k<=100000000000)(ht:t<=100000000000) :
 Calls prog 10 #[.pointer (some ⟨g,0,none⟩),.string s] W (qmjm W g v m kv k t (fedS v m e K s.data.toList)):=
 q9wl h.st s hm hm16 (by omega) hk ht fun l hl=>qp1j (by omega)
theorem q1mo(w:World):Calls prog 6 #[] w fun e w'=>e=.returned (.bool true)/\Below w.heap.size w w':=by
 have LM:=hid (qchb w);have NW:=hid (fun W=>qn5h 4 (64:Nat) 0 W)
 go_in
 go_wp2_with fail;refine LM.out.mono ?_;rintro e0 W0 ⟨rfl,hb0⟩;have B0:=hid hb0;clear hb0;go_wp2_with fail;refine(NW.out _).mono ?_;intro e1 W1 hn;obtain⟨g,rfl,S1⟩:=StL.new hn (by decide);have F1:=S1.feeds ⟨#[192]⟩ (by decide) (by decide) (by decide) (by decide) (by decide) (by decide);rw[show fedS 4 64 0 [] (⟨#[192]⟩:ByteArray).data.toList=([],[192],0,0) by decide+kernel] at F1;have S1:=hid S1;have F1:=hid F1;clear hn;go_wp2_with fail;refine F1.out.mono ?_;intro e2 W2 hr;obtain⟨A1,c1,l1,kv2,z2,rfl,m1,n1,S2,H1,K1,N1⟩:=S1.out.fed hr;obtain rfl:l1=[]:=List.map_eq_nil_iff.1 m1;have F2:=S2.feeds ⟨#[0,208]⟩ (by decide) (by decide) (by decide) (by simp) (by simp) (by simp);simp only[List.length_nil] at S2 F2;rw[show fedS 4 64 0 [192] (⟨#[0,208]⟩:ByteArray).data.toList=([{Pk.zero with kind:=12}],[208],2,0) by decide+kernel] at F2;have S2:=hid S2;have F2:=hid F2;clear hr m1 n1 H1 K1 N1 S1 F1;go_wp2_with fail;refine F2.out.mono ?_;intro e3 W3 hr;obtain⟨A2,c2,l2,kv3,z3,rfl,m2,n2,S3,H2,K2,N2⟩:=S2.out.fed hr;have F3:=S3.feeds ⟨#[0]⟩ (by decide) (by decide) (by decide) (by simp) (by simp) (by simp);rw[show fedS 4 64 0 [208] (⟨#[0]⟩:ByteArray).data.toList=([{Pk.zero with kind:=13}],[],2,0) by decide+kernel] at F3;have HG:=hid (show g<W2.heap.size from S2.out.st.st.lt);have S3:=hid S3;have F3:=hid F3;have H2:=hid H2;have M2:=hid m2;clear hr m2 n2 K2 N2 S2 F2;go_wp2_with fail;refine F3.out.mono ?_;intro e4 W4 hr;obtain⟨A3,c3,l3,kv4,z4,rfl,m3,n3,S4,H3,K3,N3⟩:=S3.out.fed hr;obtain⟨a1,i2,j2,rfl,k2⟩:=(H2.out.kept K3 N3 HG.out).kind M2.out;obtain⟨a2,i3,j3,rfl,k3⟩:=H3.kind m3;have BL:=hid (qxh2 B0.out S4.low);rw[a1,a2];clear hr m3 n3 S4 H3 K3 N3 S3 F3 H2 M2;go_wp2;go_ret;exact⟨rfl,BL.out⟩
theorem StL.needs{w W:World}{g m z k t e:Nat}{v:Int}{kv:Value}{K:List UInt8}(h:StL w g v m kv K z k t e W)(hm:m<=1048576)(hK:K.length<=1048576) :
 Calls prog 9 #[.pointer (some ⟨g,0,none⟩)] W fun E W'=>E=.returned (.int .i64 (qxh4 z K.length e))/\∃j,W'=W.drewN j:=by
 obtain⟨A,c,rfl,-,-⟩:=id h.st.bf;exact qmsv h.st.st (fun h0=>by rw[(h.st.sz h0).1];exact Nat.le_trans (qvu1 _ _ _) hm) hK
theorem q0ah(v:Int)(m:Nat)(K C:List UInt8):fedS v m 0 K C=goW v m (K++C):=by unfold fedS;rw[if_neg (by simp)]
theorem qsba{v:Int}{m:Nat}{K C:List UInt8}{R:List Pk×List UInt8×Nat×Nat}(h:goW v m (K++C)=R):R.2.1.length+R.2.2.1<=K.length+C.length/\R.1.length<=K.length+C.length:=by subst h;obtain⟨h1,h2⟩:=qqsp (v:=v) (m:=m) _ (K++C) (Nat.le_refl _);rw[List.length_append] at h1;omega
theorem qr4e(v:Int)(s more:ByteArray)(w:World)(hs9:s.size<=9223372036854775807)(hm9:more.size<=9223372036854775807) :
 Calls prog 5 #[.int .i64 v,.string s,.string more] w fun e w'=>e=.returned (.bool true)/\Below w.heap.size w w':=by
 have LV:=hid (q1mo w);have NW:=hid (fun W=>qn5h v (512:Nat) 0 W);by_cases hbig:600<s.size\/600<more.size
 ·have H9:=hid hs9;clear hs9 hm9 NW;by_cases h1:600<s.size
  ·have g1:decide ((600:Int)<(s.size:Int))=true:=decide_eq_true (by omega);clear hbig H9
   go_in
   go_wp2_with fail;refine LV.out.mono ?_;rintro e0 W0 ⟨rfl,hb0⟩;have B0:=hid hb0;clear hb0;go_wp2;go_ret;exact⟨rfl,B0.out⟩
  ·have g1:decide ((600:Int)<(s.size:Int))=false:=decide_eq_false (by omega);have g2:decide ((600:Int)<(more.size:Int))=true:=decide_eq_true (by omega);have h2:600<more.size:=hbig.resolve_left h1;clear hbig H9
   go_in
   go_wp2_with fail;refine LV.out.mono ?_;rintro e0 W0 ⟨rfl,hb0⟩;have B0:=hid hb0;clear hb0;go_wp2;go_ret;exact⟨rfl,B0.out⟩
 have hs6:¬600<s.size:=by omega
 have hm6:¬600<more.size:=by omega
 have HS6:=hid (And.intro hs6 hm6);clear hs9 hm9 hbig;cases hok:(verH v&&limB ((512:Nat):Int) 0) with
 |false=>
  go_in
  go_wp2_with fail;refine LV.out.mono ?_;rintro e0 W0 ⟨rfl,hb0⟩;have B0:=hid hb0;clear hb0;go_wp2_with fail;refine(NW.out _).mono ?_;rintro e1 W1 ⟨hb1,h2,-⟩;obtain rfl:=h2 hok;have B1:=hid (qxh2 B0.out hb1);clear hb1 h2;go_wp2;go_ret;exact⟨rfl,B1.out⟩
 |true=>
  have hver:verH v=true:=by rw[Bool.and_eq_true] at hok;exact hok.1
  have HV:=hid hver;clear hver
  go_in
  go_wp2_with fail;refine LV.out.mono ?_;rintro e0 W0 ⟨rfl,hb0⟩;have B0:=hid hb0;clear hb0;go_wp2_with fail;refine(NW.out _).mono ?_;intro e1 W1 hn;obtain⟨g,rfl,S1⟩:=StL.new hn hok;have F1:=S1.feeds s (by decide) (by decide) (by omega) (by decide) (by decide) (by decide);rw[q0ah] at F1;have hfl:=fun R=>qsba (v:=v) (m:=512) (K:=[]) (C:=s.data.toList) (R:=R);obtain⟨⟨L1,K1,n1,q1⟩,hR⟩:∃R,goW v 512 ([]++s.data.toList)=R:=⟨_,rfl⟩
  have hfl:=hfl _ hR;rw[hR] at F1;rw[<-q4ad] at hfl;simp only[List.length_nil,Nat.zero_add] at hfl;have S1:=hid S1;have F1:=hid F1;have HFL:=hid hfl;clear hn hfl hR;go_wp2_with fail;refine F1.out.mono ?_;intro e2 W2 hr;obtain⟨A1,c1,l1,kv2,z2,rfl,m1,-,S2,-,-,-⟩:=S1.out.fed hr;simp only[Nat.zero_add] at S2;have ND:=S2.needs (by decide) (by have:=HFL.out;have:=HS6.out;omega);have BL:=hid (qxh2 B0.out S2.low);by_cases h0:q1=0
  ·subst h0;obtain⟨hz,h3⟩:=S2.st.sz rfl;obtain⟨nn,hnn,hn1,hn5,hC,hD⟩:=q5eb HV.out (by decide) h3;have hne:qxh4 z2 K1.length 0=(nn:Int):=by unfold qxh4;rw[if_neg (by simp),hz,hnn]
   rw[hne] at ND;have ND:=hid ND;have S2:=hid S2;have HCD:=hid (And.intro hC (And.intro hD (And.intro hn1 hn5)));have i1:(1:Int)<=(nn:Int):=by omega
   have i5:(nn:Int)<=512:=by omega
   clear hr m1 hz h3 hnn hne hC hD hn1 hn5 F1 S1;go_wp2_with fail;refine ND.out.mono ?_;rintro e3 W3 ⟨rfl,j,rfl⟩;have S3:=hid (S2.out.draws j);generalize W2.drewN j=W3 at *;by_cases hmo:more.size<nn
   ·have g1:decide ((more.size:Int)<(nn:Int))=true:=decide_eq_true (by omega);have B3:=hid (qxh2 B0.out S3.out.low);go_wp2;go_ret;exact⟨rfl,B3.out⟩
   ·have g1:decide ((more.size:Int)<(nn:Int))=false:=decide_eq_false (by omega);obtain⟨k,hk⟩:∃k,nn=k+1:=⟨nn-1,by have:=HCD.out.2.2.1;omega⟩
    have hk1:(nn:Int)-1=(k:Int):=by omega
    have hkm:(k:Int)<=(more.size:Int):=by omega
    have hkn:(k:Int)<=(nn:Int):=by omega
    have hnm:(nn:Int)<=(more.size:Int):=by omega
    obtain⟨C,hC⟩:∃C,more.data.toList.take k=C:=⟨_,rfl⟩
    obtain⟨D,hD⟩:∃D,(more.data.toList.drop k).take 1=D:=⟨_,rfl⟩
    have hCl:C.length=k:=by rw[<-hC,List.length_take,<-q4ad];omega
    have hDl:D.length=1:=by rw[<-hD,List.length_take,List.length_drop,<-q4ad];omega
    have hp1:(more.extract 0 k).data.toList=C:=by
     have:=q31q more 0 k
     rw[Nat.zero_add,List.drop_zero] at this;rw[this,qkd1,hC]
    have hp2:(more.extract k nn).data.toList=D:=by rw[hk,q31q,qkd1,hD]
    have hs1:(more.extract 0 k).size=k:=by rw[q4ad,hp1,hCl]
    have hs2:(more.extract k nn).size=1:=by rw[q4ad,hp2,hDl]
    obtain⟨p1,hp1'⟩:∃p1,more.extract 0 k=p1:=⟨_,rfl⟩
    obtain⟨p2,hp2'⟩:∃p2,more.extract k nn=p2:=⟨_,rfl⟩
    rw[hp1'] at hp1 hs1;rw[hp2'] at hp2 hs2;obtain⟨q1,q2⟩:=HCD.out.1 C (by rw[hCl,hk]);have q3:=HCD.out.2.1;have F2:=S3.out.feeds p1 (by decide) (by decide) (by have:=HCD.out.2.2.2;omega) (by have:=HFL.out;have:=HS6.out;omega) (by have:=HFL.out;have:=HS6.out;omega) (by have:=HFL.out;have:=HS6.out;omega);rw[q0ah,hp1,q1] at F2;have HQ:=hid (And.intro q2 (And.intro hCl (And.intro hDl (And.intro hp2 (And.intro hs2 hk)))));have HQ3:=hid q3;replace F2:=hid F2;clear hC hD hCl hDl hp1 hs1 hp2 hs2 q1 q2 q3 hmo hk;go_wp2_with fail;refine F2.out.mono ?_;intro e4 W4 hr;obtain⟨A2,c2,l2,kv3,z3,rfl,m2,-,S4,-,-,-⟩:=S3.out.fed hr;obtain rfl:l2=[]:=List.map_eq_nil_iff.1 m2;simp only[List.length_nil,Nat.add_zero] at S4;have TF:=fun W (h:StL W0 g v 512 kv3 (K1++C) z3 n1 (L1.length) 0 W)=>q2kk h.st.st;have FF:=fun W (h:StL W0 g v 512 kv3 (K1++C) z3 n1 (L1.length) 0 W)=>h.feeds p2 (by decide) (by decide) (by have:=HQ.out;omega) (by rw[List.length_append];have:=HFL.out;have:=HS6.out;have:=HQ.out;have:=HCD.out;omega) (by have:=HFL.out;have:=HS6.out;omega) (by have:=HFL.out;have:=HS6.out;omega);rw[q0ah,HQ.out.2.2.2.1] at FF;have NF:=fun(h1:1<nn)=>S4.needs (by decide) (by rw[List.length_append];have:=HFL.out;have:=HS6.out;have:=HQ.out;have:=HCD.out;omega);have S4:=hid S4;clear hr m2 S3 F2;by_cases h1:nn=1
    ·have g2:decide ((1:Int)<(nn:Int))=false:=decide_eq_false (by omega);have g3:((nn:Int)==1)=true:=by simp;omega
     have g4:¬1<nn:=by omega
     clear h1;have T5:=hid (TF _ S4.out);have F4:=hid (FF _ S4.out);go_wp2_with fail;refine T5.out.mono ?_;rintro e5 W5 ⟨rfl,rfl⟩;go_wp2_with fail;refine F4.out.mono ?_;intro e6 W6 hr;obtain⟨A3,c3,l3,kv4,z4,rfl,m3,-,S5,-,-,-⟩:=S4.out.fed hr;have B5:=hid (qxh2 B0.out S5.low);clear hr m3 S5;go_wp2;go_ret;exact⟨rfl,B5.out⟩
    ·have h2:1<nn:=by have:=HCD.out.2.2.1;omega
     have g2:decide ((1:Int)<(nn:Int))=true:=decide_eq_true (by omega);have g3:((nn:Int)==1)=false:=by simp;omega
     have NE:=NF h2;have hz3:z3=(K1++C).length+1:=by rw[(S4.out.st.sz rfl).1];exact HQ.out.1 h2
     have hne:qxh4 z3 (K1++C).length 0=1:=by unfold qxh4;rw[if_neg (by simp),if_neg (by omega),hz3];omega
     rw[hne] at NE;have NE:=hid NE;have H3:=hid (HQ3.out h2 C p2.data.toList (by rw[HQ.out.2.1,HQ.out.2.2.2.2.2]) (by rw[HQ.out.2.2.2.1,HQ.out.2.2.1]));have H2:=hid h2;have TF:=hid TF;have FF:=hid FF;clear h1 hz3 hne NF;go_wp2_with fail;refine NE.out.mono ?_;rintro e5 W5 ⟨rfl,j,rfl⟩;have S5:=hid (S4.out.draws j);generalize W4.drewN j=W5 at *;have T5:=hid (TF.out _ S5.out);have F4:=hid (FF.out _ S5.out);go_wp2_with fail;refine T5.out.mono ?_;rintro e6 W6 ⟨rfl,rfl⟩;go_wp2_with fail;refine F4.out.mono ?_;intro e7 W7 hr;obtain⟨A3,c3,l3,kv4,z4,rfl,m3,-,S6,-,-,-⟩:=S5.out.fed hr;have h3:=H3.out;rw[HQ.out.2.2.2.1] at h3;have hl3:=congrArg List.length m3;rw[List.length_map] at hl3;have B6:=hid (qxh2 B0.out S6.low);have T6:=q2kk S6.st.st;obtain⟨⟨L2,K2,n2,q2⟩,hR2⟩:∃R,goW v 512 (K1++C++D)=R:=⟨_,rfl⟩
     rw[hR2] at h3 hl3 T6 ⊢;simp only at h3 hl3 T6 ⊢;by_cases hq:q2=0
     ·obtain⟨hL2,-⟩:=h3.resolve_left (fun c=>c hq);rw[hL2] at T6;have hL1:(L1.length:Int)<=600:=by have:=HFL.out.2;have:=HS6.out;omega
      rw[hL2] at hl3;rw[hl3,hq];have T6:=hid T6;clear h3 hl3 m3 S6 hr hR2 hL2 hq;go_wp2_with fail;refine T6.out.mono ?_;rintro e8 W8 ⟨rfl,rfl⟩;go_wp2;go_ret;exact⟨rfl,B6.out⟩
     ·have q2':((q2:Int) != 0)=true:=by simp;omega
      clear h3 hl3 m3 S6 hr hR2 hq T6;go_wp2;go_ret;exact⟨rfl,B6.out⟩
  ·have hne:qxh4 z2 K1.length q1=0:=by unfold qxh4;rw[if_pos h0]
   rw[hne] at ND;have ND:=hid ND;have q1':((q1:Int) != 0)=true:=by simp;omega
   clear h0;go_wp2_with fail;refine ND.out.mono ?_;rintro e3 W3 ⟨rfl,j,rfl⟩;go_wp2;go_ret;exact⟨rfl,qnpu BL.out j⟩
end Go.Proofs.YtlhkgidoaggodaaGreatDoor
