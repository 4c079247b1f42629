/- A law's stream; the packets that it told; lives. No condition. -/
import Derived.Test.YtlhkgidoaggodaaGreatDoorK51
import Derived.Test.YtlhkgidoaggodaaGreatDoorK52
set_option maxRecDepth 100000
set_option maxHeartbeats 4000000
namespace Go.Proofs.YtlhkgidoaggodaaGreatDoor
open Lib(hid)
open Proofs.Tryz
open Go.RowKit
structure StL(w:World)(g:Nat)(v:Int)(m:Nat)(kv:Value)(K:List UInt8)(z k t e:Nat)(W:World):Prop where
 low:Below w.heap.size w W
 gw:w.heap.size<=g
 st:StrS W g v m kv K z k t e
 kw:∀b,kv.ownBlock=some b->w.heap.size<=b
structure Hold(B:Nat)(kv:Value)(A:Option Addr)(l:List Pa)(W:World):Prop where
 pk:PKL W A l
 fit:∀q∈l,FitM q.1
 nb:∀q∈l,∀i,q10u q.1 q.2 i->B<=i/\kv.ownBlock≠some i
 na:l≠[]->∀i j,A=some ⟨i,j,none⟩->B<=i/\kv.ownBlock≠some i
section
variable{w W W':World}{g m z k t e B:Nat}{v:Int}{kv kv':Value}{K:List UInt8}{R:List Pk×List UInt8×Nat×Nat}{E:Ending}{A:Option Addr}{l:List Pa}
theorem StrS.kept(h:StrS W g v m kv K z k t e)(hs:W.heap.size<=W'.heap.size)(hb:∀i,i=g\/kv.ownBlock=some i->W'.heap[i]?=W.heap[i]?):StrS W' g v m kv K z k t e:=
 ⟨h.st.of_block (hb g (.inl rfl)),h.bf.moved fun b hk _=>hb b (.inr hk),h.kg,fun b hk=>Nat.lt_of_lt_of_le (h.kl b hk) hs,h.sz,h.er⟩
theorem StL.call(h:StL w g v m kv K z k t e W)(hb:Below W.heap.size W W'):StL w g v m kv K z k t e W':=
 ⟨qxh2 h.low hb,h.gw,h.st.kept hb.size fun i hi=>hb.block i (hi.elim (fun e=>e▸h.st.st.lt) (h.st.kl i)),h.kw⟩
theorem StL.draws(h:StL w g v m kv K z k t e W)(n:Nat):StL w g v m kv K z k t e (W.drewN n):=h.call (qnpu (Below.refl _ _) n)
theorem StK.below{w W W':World}{g:Nat}{o:Option Nat}(h:Below w.heap.size w W)(k:StK W W' g o)(hg:w.heap.size<=g)(ho:∀b,o=some b->w.heap.size<=b):Below w.heap.size w W':=
 ⟨k.os.trans h.os,k.tape.trans h.tape,k.output.trans h.output,Nat.le_trans h.size k.size,fun i hi=>(k.block i (Nat.lt_of_lt_of_le hi h.size) (by omega) (fun e=>by have:=ho i e;omega)).trans (h.block i hi)⟩
theorem NewB.ge{o o':Option Nat}(h:NewB W o o')(hw:w.heap.size<=W.heap.size)(ho:∀b,o=some b->w.heap.size<=b):∀b,o'=some b->w.heap.size<=b:=fun b e=>by
 rcases h with h|h|⟨j,h,hj⟩
 ·exact ho b (h▸e)
 ·rw[h] at e;cases e
 ·rw[h] at e;have:=Option.some.inj e;omega
theorem StL.new{d:Int}(hn:qyzr w v (m:Int) d E W)(hok:(verH v&&limB (m:Int) d)=true):∃g,E=.returned (.tuple #[.pointer (some ⟨g,0,none⟩),.int .i64 0])/\StL w g v m (.slice none 0 0) [] 0 0 0 0 W:=by
 obtain⟨h1,-,h3⟩:=hn;obtain⟨g,he,hg,hs⟩:=h3 hok;rw[Int.toNat_natCast] at hs;have hver:verH v=true:=by rw[Bool.and_eq_true] at hok;exact hok.1
 refine⟨g,he,h1,hg,⟨hs,Buf.empty _,(fun e=>nomatch e),(fun b e=>nomatch e),fun _=>?_,fun h=>absurd rfl h⟩,(fun b e=>nomatch e)⟩;have hr:qday v []=(noH,0,3):=by rw[qwts,if_neg (by rw[hver];decide)]
 obtain⟨h1,h2⟩:=qdul (v:=v) (m:=m) (l:=[]) (by rw[hr];decide);exact⟨h2.symm,by rw[h1,hr]⟩
theorem StL.fed(h:StL w g v m kv K z k t e W)(hr:qmjm W g v m kv k t R E W'):∃A c l kv' z',E=.returned (.tuple #[.slice A l.length c,.int .i64 (R.2.2.2:Nat)])/\l.map (·.1)=R.1/\l.length<=c/\StL w g v m kv' R.2.1 z' (k+R.2.2.1) (t+R.1.length) R.2.2.2 W'/\Hold W.heap.size kv' A l W'/\
 StK W W' g kv.ownBlock/\NewB W kv.ownBlock kv'.ownBlock:=by
 obtain⟨A,c,l,kv',z',he,h1,h2,h3,h4,h5,h6,h7,h8,h9⟩:=hr;exact⟨A,c,l,kv',z',he,h1,h2,⟨h8.below h.low h.gw h.kw,h.gw,h7,h9.ge h.low.size h.kw⟩,⟨h3,h4,h5,fun _=>h6⟩,h8,h9⟩
theorem Hold.kept(h:Hold B kv A l W)(hk:StK W W' g kv.ownBlock)(hn:NewB W kv.ownBlock kv'.ownBlock)(hg:g<B):Hold B kv' A l W':=by
 have hb:∀q∈l,∀i,q10u q.1 q.2 i->W'.heap[i]?=W.heap[i]? := fun q hq i hi=>hk.block i ((h.pk.each q hq).lists_lt hi) (by have:=(h.nb q hq i hi).1;omega) (h.nb q hq i hi).2;have hA:l≠[]->∀i j,A=some ⟨i,j,none⟩->i<W.heap.size:=fun hne i j hA=>by obtain⟨q,l',rfl⟩:=List.exists_cons_of_ne_nil hne;obtain⟨i',j',e,hl,-⟩:=h.pk.at (i:=0) (q:=q) rfl;rw[hA] at e;cases e;exact hl
 refine⟨⟨fun hne=>?_,fun q hq=>(h.pk.each q hq).moved hk.size (hb q hq)⟩,h.fit,fun q hq i hi=>⟨(h.nb q hq i hi).1,hn.ne ((h.pk.each q hq).lists_lt hi) (h.nb q hq i hi).2⟩,fun hne i j e=>⟨(h.na hne i j e).1,hn.ne (hA hne i j e) (h.na hne i j e).2⟩⟩;obtain⟨i,j,e,hl,hc⟩:=h.pk.cl hne;have hl0:l≠[]:=fun e2=>hne (by rw[e2];rfl);have hbl:=hk.block i hl (by have:=(h.na hl0 i j e).1;omega) (h.na hl0 i j e).2;exact⟨i,j,e,Nat.lt_of_lt_of_le hl hk.size,fun n u hu=>(World.cell?_of_block (a:=⟨i,j+n,none⟩) hbl).trans (hc n u hu)⟩
theorem Hold.below(h:Hold B kv A l W)(hb:Below W.heap.size W W'):Hold B kv A l W':=⟨h.pk.below hb,h.fit,h.nb,h.na⟩
theorem Hold.kind(h:Hold B kv A l W){p:Pk}(hl:l.map (·.1)=[p]):l.length=1/\∃i j,A=some ⟨i,j,none⟩/\W.cell? ⟨i,j,none⟩=some (.int .i64 p.kind):=by
 obtain⟨q,rfl⟩:∃q,l=[q]:=by
  cases l with
  |nil=>cases hl
  |cons q l=>cases l with
   |nil=>exact⟨q,rfl⟩
   |cons r l=>cases hl
 have hq:q.1=p:=by simpa using hl
 obtain⟨i,j,e,-,hc⟩:=h.pk.at (i:=0) (q:=q) rfl;refine⟨rfl,i,j,e,?_⟩
 have:=hc 0 (.int .i64 q.1.kind) rfl
 rw[hq] at this;simpa using this
end
theorem qchb(w:World):Calls prog 8 #[] w fun e w'=>e=.returned (.agg #[.int .i64 64,.int .i64 0])/\Below w.heap.size w w':=by
 go_in
 go_wp2_with fail;exact q7wi (cs:=#[.int .i64 64,.int .i64 0]) rfl rfl rfl underlying28 rfl (by kernel_rfl) (heap_alloc_new w _) ⟨rfl,qybm _⟩
theorem StL.feeds{w W:World}{g m z k t e:Nat}{v:Int}{kv:Value}{K:List UInt8}(h:StL w g v m kv K z k t e W)(s:ByteArray)(hm:m<=1048576)(hm16:16<=m)(hs:s.size<=60000)(hK:K.length<=10000)(hk:k<=100000000000)(ht:t<=100000000000) :
 Calls prog 10 #[.pointer (some ⟨g,0,none⟩),.string s] W (qmjm W g v m kv k t (fedS v m e K s.data.toList)):=
 q9wl h.st s hm hm16 (by omega) hk ht fun l hl=>qp1j (by omega)
theorem q1mo(w:World):Calls prog 6 #[] w fun e w'=>e=.returned (.bool true)/\Below w.heap.size w w':=by
 have LM:=hid (qchb w);have NW:=hid (fun W=>qn5h 4 (64:Nat) 0 W)
 go_in
 go_wp2_with fail;refine LM.out.mono ?_;rintro e0 W0 ⟨rfl,hb0⟩;have B0:=hid hb0;clear hb0;go_wp2_with fail;refine(NW.out _).mono ?_;intro e1 W1 hn;obtain⟨g,rfl,S1⟩:=StL.new hn (by decide);have F1:=S1.feeds ⟨#[192]⟩ (by decide) (by decide) (by decide) (by decide) (by decide) (by decide);rw[show fedS 4 64 0 [] (⟨#[192]⟩:ByteArray).data.toList=([],[192],0,0) by decide+kernel] at F1;have S1:=hid S1;have F1:=hid F1;clear hn;go_wp2_with fail;refine F1.out.mono ?_;intro e2 W2 hr;obtain⟨A1,c1,l1,kv2,z2,rfl,m1,n1,S2,H1,K1,N1⟩:=S1.out.fed hr;obtain rfl:l1=[]:=List.map_eq_nil_iff.1 m1;have F2:=S2.feeds ⟨#[0,208]⟩ (by decide) (by decide) (by decide) (by simp) (by simp) (by simp);simp only[List.length_nil] at S2 F2;rw[show fedS 4 64 0 [192] (⟨#[0,208]⟩:ByteArray).data.toList=([{Pk.zero with kind:=12}],[208],2,0) by decide+kernel] at F2;have S2:=hid S2;have F2:=hid F2;clear hr m1 n1 H1 K1 N1 S1 F1;go_wp2_with fail;refine F2.out.mono ?_;intro e3 W3 hr;obtain⟨A2,c2,l2,kv3,z3,rfl,m2,n2,S3,H2,K2,N2⟩:=S2.out.fed hr;have F3:=S3.feeds ⟨#[0]⟩ (by decide) (by decide) (by decide) (by simp) (by simp) (by simp);rw[show fedS 4 64 0 [208] (⟨#[0]⟩:ByteArray).data.toList=([{Pk.zero with kind:=13}],[],2,0) by decide+kernel] at F3;have HG:=hid (show g<W2.heap.size from S2.out.st.st.lt);have S3:=hid S3;have F3:=hid F3;have H2:=hid H2;have M2:=hid m2;clear hr m2 n2 K2 N2 S2 F2;go_wp2_with fail;refine F3.out.mono ?_;intro e4 W4 hr;obtain⟨A3,c3,l3,kv4,z4,rfl,m3,n3,S4,H3,K3,N3⟩:=S3.out.fed hr;obtain⟨a1,i2,j2,rfl,k2⟩:=(H2.out.kept K3 N3 HG.out).kind M2.out;obtain⟨a2,i3,j3,rfl,k3⟩:=H3.kind m3;have BL:=hid (qxh2 B0.out S4.low);rw[a1,a2];clear hr m3 n3 S4 H3 K3 N3 S3 F3 H2 M2;go_wp2;go_ret;exact⟨rfl,BL.out⟩
theorem StL.needs{w W:World}{g m z k t e:Nat}{v:Int}{kv:Value}{K:List UInt8}(h:StL w g v m kv K z k t e W)(hm:m<=1048576)(hK:K.length<=1048576) :
 Calls prog 9 #[.pointer (some ⟨g,0,none⟩)] W fun E W'=>E=.returned (.int .i64 (qxh4 z K.length e))/\∃j,W'=W.drewN j:=by
 obtain⟨A,c,rfl,-,-⟩:=id h.st.bf;exact qmsv h.st.st (fun h0=>by rw[(h.st.sz h0).1];exact Nat.le_trans (qvu1 _ _ _) hm) hK
theorem qgeq(w:World):Calls prog 14 #[.pointer none] w fun e' w'=>e'=.returned (.int .i64 1)/\w=w':=by
 have V:=hid (qtbe w)
 go_in
 go_wp2_with fail;refine V.out.mono ?_;rintro e' w' ⟨rfl,rfl⟩;go_wp2;go_ret;exact⟨rfl,rfl⟩
theorem qrm5(w:World):Calls prog 11 #[.pointer none] w fun e' w'=>e'=.returned (.int .i64 0)/\w=w':=by
 have V:=hid (qtbe w)
 go_in
 go_wp2_with fail;refine V.out.mono ?_;rintro e' w' ⟨rfl,rfl⟩;go_wp2;go_ret;exact⟨rfl,rfl⟩
theorem qlqx(w:World):Calls prog 12 #[.pointer none] w fun e' w'=>e'=.returned (.int .i64 0)/\w=w':=by
 have V:=hid (qtbe w)
 go_in
 go_wp2_with fail;refine V.out.mono ?_;rintro e' w' ⟨rfl,rfl⟩;go_wp2;go_ret;exact⟨rfl,rfl⟩
theorem qmob(w:World):Calls prog 13 #[.pointer none] w fun e' w'=>e'=.returned (.int .i64 0)/\w=w':=by
 have V:=hid (qtbe w)
 go_in
 go_wp2_with fail;refine V.out.mono ?_;rintro e' w' ⟨rfl,rfl⟩;go_wp2;go_ret;exact⟨rfl,rfl⟩
theorem qnfp(w:World):Calls prog 9 #[.pointer none] w fun e' w'=>e'=.returned (.int .i64 0)/\w=w':=by
 have V:=hid (qtbe w)
 go_in
 go_wp2_with fail;refine V.out.mono ?_;rintro e' w' ⟨rfl,rfl⟩;go_wp2;go_ret;exact⟨rfl,rfl⟩
section
variable{w w0 W W':World}{g m z k t e B:Nat}{v:Int}{kv:Value}{K:List UInt8}{A:Option Addr}{l:List Pa}
theorem StL.rebase(h:StL w0 g v m kv K z k t e W)(hb:Below w.heap.size w w0):StL w g v m kv K z k t e W:=
 ⟨qxh2 hb h.low,Nat.le_trans hb.size h.gw,h.st,fun b e=>Nat.le_trans hb.size (h.kw b e)⟩
theorem StL.kept(h:StL w g v m kv K z k t e W):Calls prog 12 #[.pointer (some ⟨g,0,none⟩)] W fun e' w'=>e'=.returned (.int .i64 (K.length:Nat))/\W=w':=by obtain⟨A,c,rfl,-,-⟩:=id h.st.bf;exact qozv h.st.st
theorem Hold.payload(h:Hold B kv A l W){p:List UInt8}(hl:l.map (·.1.payload)=[p]):l.length=1/\∃i j,A=some ⟨i,j,none⟩/\W.cell? ⟨i,j+6,none⟩=some (.string (bs p)):=by
 obtain⟨q,rfl⟩:∃q,l=[q]:=by
  cases l with
  |nil=>cases hl
  |cons q l=>cases l with
   |nil=>exact⟨q,rfl⟩
   |cons r l=>cases hl
 have hq:q.1.payload=p:=by simpa using hl
 obtain⟨i,j,e,-,hc⟩:=h.pk.at (i:=0) (q:=q) rfl;refine⟨rfl,i,j,e,?_⟩
 have:=hc 6 (.string (bs q.1.payload)) rfl
 rw[hq] at this;simpa using this
end
theorem qo4k:fedS 5 64 0 [] [192,0,48,5,0,1]=([{Pk.zero with kind:=12}],[48,5,0,1],2,0):=by decide+kernel
theorem qe9g:(fedS 5 64 0 [48,5,0,1] [97,0,120,193]).1.map (·.payload)=[[120]]/\(fedS 5 64 0 [48,5,0,1] [97,0,120,193]).2=([],7,7):=by decide+kernel
theorem q8va:fedS 5 64 7 [] [192,0]=([],[],0,7):=by decide+kernel
theorem qb7m:fedS 5 64 0 [] [48,62]=([],[48,62],0,0):=by decide+kernel
theorem q1cg:fedS 5 64 0 [48,62] []=([],[48,62],0,0):=by decide+kernel
theorem qj66:fedS 5 64 0 [] [48,63]=([],[],0,4):=by decide+kernel
theorem qazu:qexp 5 64 [48,5,0,1]=7:=by decide+kernel
theorem qy96(w:World):Calls prog 3 #[] w fun e w'=>e=.returned (.bool true)/\Below w.heap.size w w':=by
 have LV:=hid (q1mo w);have LM:=hid (fun W=>qchb W);have NW:=hid (fun v m d W=>qn5h v m d W);have N64:=hid (fun v W=>qn5h v (64:Nat) 0 W)
 go_in
 go_wp2_with fail;refine LV.out.mono ?_;rintro e0 W0 ⟨rfl,hb⟩;have B0:=hid hb;clear hb;go_wp2_with fail;refine(LM.out _).mono ?_;rintro e1 W1 ⟨rfl,hb⟩;have B1:=hid (qxh2 B0.out hb);have C1:=hid hb;clear hb;go_wp2_with fail;refine(NW.out 3 64 0 _).mono ?_;rintro e2 W2 ⟨hb,h2,-⟩;obtain rfl:=h2 (by decide);have B2:=hid (qxh2 B1.out hb);clear hb h2;go_wp2_with fail;refine(NW.out 5 15 0 _).mono ?_;rintro e3 W3 ⟨hb,h2,-⟩;obtain rfl:=h2 (by decide);have B3:=hid (qxh2 B2.out hb);clear hb h2;go_wp2_with fail;refine(NW.out 5 16 33 _).mono ?_;rintro e4 W4 ⟨hb,h2,-⟩;obtain rfl:=h2 (by decide);have B4:=hid (qxh2 B3.out hb);clear hb h2;go_wp2_with fail;refine(LM.out _).mono ?_;rintro e5 W5 ⟨rfl,hb⟩;have B5:=hid (qxh2 B4.out hb);have C5:=hid hb;clear hb;go_wp2_with fail;refine(N64.out 5 _).mono ?_;intro e6 W6 hn;obtain⟨g,rfl,S⟩:=StL.new hn (by decide);have S6:=hid (S.rebase B5.out);clear hn S;have ND:=S6.out.needs (by decide) (by simp);rw[show qxh4 _ _ _=(1:Int) from rfl] at ND;replace ND:=hid ND;go_wp2_with fail;refine ND.out.mono ?_;rintro e7 W7 ⟨rfl,j,rfl⟩;have S7:=hid (S6.out.draws j);generalize W6.drewN j=W7 at *;clear ND;have F:=S7.out.feeds (⟨#[192,0,48,5,0,1]⟩:ByteArray) (by decide) (by decide) (by decide) (by simp) (by simp) (by simp);rw[show(⟨#[192,0,48,5,0,1]⟩:ByteArray).data.toList=[192,0,48,5,0,1] from rfl,qo4k] at F;replace F:=hid F;go_wp2_with fail;refine F.out.mono ?_;intro e8 W8 hr;obtain⟨A8,A8c,l8,A8k,A8z,rfl,m8,-,S,H8,K8,N8⟩:=S7.out.fed hr;clear F hr;have hz:=(S.st.sz rfl).1;simp only[qazu] at hz;subst hz;clear m8 H8 K8 N8;have S8:=hid S;clear S;have ND:=S8.out.needs (by decide) (by simp);rw[show qxh4 _ _ _=(3:Int) from rfl] at ND;replace ND:=hid ND;go_wp2_with fail;refine ND.out.mono ?_;rintro e9 W9 ⟨rfl,j,rfl⟩;have S9:=hid (S8.out.draws j);generalize W8.drewN j=W9 at *;clear ND;have Q:=hid (qxbb S9.out.st.st);go_wp2_with fail;refine Q.out.mono ?_;rintro e9a W9a ⟨rfl,rfl⟩;clear Q;have Q:=hid (S9.out.kept);go_wp2_with fail;refine Q.out.mono ?_;rintro e9b W9b ⟨rfl,rfl⟩;clear Q;have Q:=hid (q2kk S9.out.st.st);go_wp2_with fail;refine Q.out.mono ?_;rintro e9c W9c ⟨rfl,rfl⟩;clear Q;have fb:=qe9g;obtain⟨R,hR⟩:∃R,fedS 5 64 0 [48,5,0,1] [97,0,120,193]=R:=⟨_,rfl⟩
 rw[hR] at fb;obtain⟨R1,R2,R3,R4⟩:=R;obtain⟨fb1,fb2⟩:=fb;cases fb2;have F:=S9.out.feeds (⟨#[97,0,120,193]⟩:ByteArray) (by decide) (by decide) (by decide) (by simp) (by simp) (by simp);rw[show(⟨#[97,0,120,193]⟩:ByteArray).data.toList=[97,0,120,193] from rfl,hR] at F;replace F:=hid F;go_wp2_with fail;refine F.out.mono ?_;intro e10 W10 hr;obtain⟨A10,A10c,l10,A10k,A10z,rfl,m10,-,S,H10,K10,N10⟩:=S9.out.fed hr;clear F hr;have hpl:l10.map (·.1.payload)=[[120]]:=by rw[<-fb1,show R1=l10.map (·.1) from m10.symm,List.map_map];rfl
 have hln:R1.length=1:=by have:=congrArg List.length fb1;simpa using this
 simp only[hln] at S;have HP:=hid hpl;have H10:=hid H10;have G10:=hid S9.out.st.st.lt;clear hR fb1 hpl hln m10 K10 N10;have S10:=hid S;clear S;have F:=S10.out.feeds (⟨#[192,0]⟩:ByteArray) (by decide) (by decide) (by decide) (by simp) (by simp) (by simp);rw[show(⟨#[192,0]⟩:ByteArray).data.toList=[192,0] from rfl,q8va] at F;replace F:=hid F;go_wp2_with fail;refine F.out.mono ?_;intro e11 W11 hr;obtain⟨A11,A11c,l11,A11k,A11z,rfl,m11,-,S,H11,K11,N11⟩:=S10.out.fed hr;clear F hr;obtain rfl:l11=[]:=List.map_eq_nil_iff.1 m11;have H10:=hid (H10.out.kept K11 N11 G10.out);clear m11 H11 K11 N11;have S11:=hid S;clear S;have B11:=hid S11.out.low;go_wp2_with fail;refine(LM.out _).mono ?_;rintro e12 W12 ⟨rfl,hb⟩;have B12:=hid (qxh2 B11.out hb);have C12:=hid hb;clear hb;go_wp2_with fail;refine(N64.out 5 _).mono ?_;intro e13 W13 hn;obtain⟨gl,rfl,S⟩:=StL.new hn (by decide);have L13:=hid (S);clear hn S;have F:=L13.out.feeds (⟨#[48,62]⟩:ByteArray) (by decide) (by decide) (by decide) (by simp) (by simp) (by simp);rw[show(⟨#[48,62]⟩:ByteArray).data.toList=[48,62] from rfl,qb7m] at F;replace F:=hid F;go_wp2_with fail;refine F.out.mono ?_;intro e14 W14 hr;obtain⟨A14,A14c,l14,A14k,A14z,rfl,m14,-,S,H14,K14,N14⟩:=L13.out.fed hr;clear F hr;clear m14 H14 K14 N14;have L14:=hid S;clear S;have F:=L14.out.feeds (⟨#[]⟩:ByteArray) (by decide) (by decide) (by decide) (by simp) (by simp) (by simp);rw[show(⟨#[]⟩:ByteArray).data.toList=[] from rfl,q1cg] at F;replace F:=hid F;go_wp2_with fail;refine F.out.mono ?_;intro e15 W15 hr;obtain⟨A15,A15c,l15,A15k,A15z,rfl,m15,-,S,H15,K15,N15⟩:=L14.out.fed hr;clear F hr;clear m15 H15 K15 N15;have L15:=hid S;clear S;have B15:=hid (qxh2 B12.out L15.out.low);go_wp2_with fail;refine(LM.out _).mono ?_;rintro e16 W16 ⟨rfl,hb⟩;have B16:=hid (qxh2 B15.out hb);have C16:=hid hb;clear hb;go_wp2_with fail;refine(N64.out 5 _).mono ?_;intro e17 W17 hn;obtain⟨go,rfl,S⟩:=StL.new hn (by decide);have O17:=hid (S);clear hn S;have F:=O17.out.feeds (⟨#[48,63]⟩:ByteArray) (by decide) (by decide) (by decide) (by simp) (by simp) (by simp);rw[show(⟨#[48,63]⟩:ByteArray).data.toList=[48,63] from rfl,qj66] at F;replace F:=hid F;go_wp2_with fail;refine F.out.mono ?_;intro e18 W18 hr;obtain⟨A18,A18c,l18,A18k,A18z,rfl,m18,-,S,H18,K18,N18⟩:=O17.out.fed hr;clear F hr;clear m18 H18 K18 N18;have O18:=hid S;clear S;have FN:=hid (qylq ⟨#[120]⟩ W18);go_wp2_with fail;refine FN.out.mono ?_;rintro e19 W19 ⟨rfl,rfl⟩;have D15:=qxh2 C16.out O18.out.low;have D11:=qxh2 C12.out (qxh2 L15.out.low D15);have S18:=hid (S11.out.call D11);have L18:=hid (L15.out.call D15);obtain⟨hl1,i,j,rfl,hc⟩:=(H10.out.below D11).payload HP.out;rw[hl1];have hcx:W18.cell? ⟨i,j+6,none⟩=some (.string ⟨#[120]⟩):=hc;clear D15 D11 H10 HP G10 FN hl1 S11 L15 hc;have Q:=hid (qzg4 S18.out.st.st);go_wp2_with fail;refine Q.out.mono ?_;rintro exErr WxErr ⟨rfl,rfl⟩;clear Q;have Q:=hid (qxbb S18.out.st.st);go_wp2_with fail;refine Q.out.mono ?_;rintro exAt WxAt ⟨rfl,rfl⟩;clear Q;have Q:=hid (S18.out.kept);go_wp2_with fail;refine Q.out.mono ?_;rintro exKept WxKept ⟨rfl,rfl⟩;clear Q;have Q:=hid (q2kk S18.out.st.st);go_wp2_with fail;refine Q.out.mono ?_;rintro exTold WxTold ⟨rfl,rfl⟩;clear Q;have ND:=S18.out.needs (by decide) (by simp);rw[show qxh4 _ _ 7=(0:Int) from rfl] at ND;replace ND:=hid ND;go_wp2_with fail;refine ND.out.mono ?_;rintro e20 W20 ⟨rfl,j2,rfl⟩;have L20:=hid (L18.out.draws j2);have O20:=hid (O18.out.draws j2);have S20:=hid (S18.out.draws j2);generalize W18.drewN j2=W20 at *;clear ND S18 L18 O18;have Q:=hid (L20.out.kept);go_wp2_with fail;refine Q.out.mono ?_;rintro eyL WyL ⟨rfl,rfl⟩;clear Q;have Q:=hid (O20.out.kept);go_wp2_with fail;refine Q.out.mono ?_;rintro eyO WyO ⟨rfl,rfl⟩;clear Q;have Q:=hid (qgeq W20);go_wp2_with fail;refine Q.out.mono ?_;rintro ezerr Wzerr ⟨rfl,rfl⟩;clear Q;have Q:=hid (qrm5 W20);go_wp2_with fail;refine Q.out.mono ?_;rintro ezat Wzat ⟨rfl,rfl⟩;clear Q;have Q:=hid (qlqx W20);go_wp2_with fail;refine Q.out.mono ?_;rintro ezkept Wzkept ⟨rfl,rfl⟩;clear Q;have Q:=hid (qmob W20);go_wp2_with fail;refine Q.out.mono ?_;rintro eztold Wztold ⟨rfl,rfl⟩;clear Q;have Q:=hid (qnfp W20);go_wp2_with fail;refine Q.out.mono ?_;rintro ezneed Wzneed ⟨rfl,rfl⟩;clear Q;go_wp2;go_ret;exact⟨rfl,S20.out.low⟩
end Go.Proofs.YtlhkgidoaggodaaGreatDoor
