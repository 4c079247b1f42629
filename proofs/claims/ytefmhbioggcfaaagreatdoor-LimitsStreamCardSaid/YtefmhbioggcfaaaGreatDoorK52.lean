/- The walk of LimitsStream. No condition. -/
import Derived.Test.YtefmhbioggcfaaaGreatDoorK49
import Derived.Test.YtefmhbioggcfaaaGreatDoorK51
set_option maxRecDepth 100000
set_option maxHeartbeats 2000000
namespace Go.Proofs.YtefmhbioggcfaaaGreatDoor
open Lib(hid)
open Go.RowKit
theorem qj1p(v a b:Int)(s:ByteArray)(A:Option Addr)(n c:Nat)(w:World)(hbig:3000<s.size\/60<n) :
 Calls Tryz.prog 4 #[.int .i64 v,.agg #[.int .i64 a,.int .i64 b],.string s,.slice A n c] w fun e w'=>e=.returned (.bool true)/\Below w.heap.size w w':=by
 have LV:=hid (qf34 (w.alloc (.cells #[.int .i64 a,.int .i64 b] 24)));have L0:=hid (qybm (w:=w) (.cells #[.int .i64 a,.int .i64 b] 24));by_cases h1:3000<s.size
 ·have g1:decide ((3000:Int)<(s.size:Int))=true:=decide_eq_true (by omega);clear hbig h1
  go_in
  go_wp2_with fail;refine LV.out.mono ?_;rintro e0 W0 ⟨rfl,hb0⟩;have B0:=hid (qxh2 L0.out hb0);clear hb0;go_wp2;go_ret;exact⟨rfl,B0.out⟩
 ·have g1:decide ((3000:Int)<(s.size:Int))=false:=decide_eq_false (by omega);have g2:decide ((60:Int)<(n:Int))=true:=decide_eq_true (by have:=hbig.resolve_left h1;omega);have h2:60<n:=hbig.resolve_left h1;clear hbig
  go_in
  go_wp2_with fail;refine LV.out.mono ?_;rintro e0 W0 ⟨rfl,hb0⟩;have B0:=hid (qxh2 L0.out hb0);clear hb0;go_wp2;go_ret;exact⟨rfl,B0.out⟩
theorem qdi7(v a b:Int)(s:ByteArray)(A:Option Addr)(n c:Nat)(w:World)(hs:¬3000<s.size)(hn:¬60<n)(hok:(verH v&&limB a b)=false) :
 Calls Tryz.prog 4 #[.int .i64 v,.agg #[.int .i64 a,.int .i64 b],.string s,.slice A n c] w fun e w'=>e=.returned (.bool true)/\Below w.heap.size w w':=by
 have LV:=hid (qf34 (w.alloc (.cells #[.int .i64 a,.int .i64 b] 24)));have L0:=hid (qybm (w:=w) (.cells #[.int .i64 a,.int .i64 b] 24));have R0:=hid (heap_alloc_new w (.cells #[.int .i64 a,.int .i64 b] 24));have NW:=hid (fun W=>qn5h v a b W);have SP:=hid (fun W=>qh1a v a b s W hok)
 go_in
 go_wp2_with fail;refine LV.out.mono ?_;rintro e0 W0 ⟨rfl,hb0⟩;have B0:=hid (qxh2 L0.out hb0);have R1:=hid ((hb0.block _ (lt_of_block R0.out)).trans R0.out);have l0:W0.cell? ⟨w.heap.size,0,none⟩=some (.int .i64 a):=cell_of_row _ _ 0 _ _ _ R1.out;have l1:W0.cell? ⟨w.heap.size,1,none⟩=some (.int .i64 b):=cell_of_row _ _ 1 _ _ _ R1.out;clear hb0;go_wp2_with fail;refine(SP.out _).mono ?_;rintro e1 W1 ⟨rfl,hb1⟩;have B1:=hid (qxh2 B0.out hb1);have R2:=hid ((hb1.block _ (lt_of_block R1.out)).trans R1.out);have k0:W1.cell? ⟨w.heap.size,0,none⟩=some (.int .i64 a):=cell_of_row _ _ 0 _ _ _ R2.out;have k1:W1.cell? ⟨w.heap.size,1,none⟩=some (.int .i64 b):=cell_of_row _ _ 1 _ _ _ R2.out;clear hb1 l0 l1;go_wp2_with fail;refine(NW.out _).mono ?_;rintro e2 W2 ⟨hb2,h2,-⟩;obtain rfl:=h2 hok;have B2:=hid (qxh2 B1.out hb2);clear hb2 h2 k0 k1;go_wp2;go_ret;exact⟨rfl,B2.out⟩
theorem qyp1(v a b:Int)(s:ByteArray)(A:Option Addr)(n c:Nat)(zs:List Int)(w:World)(hA:IR w A zs)(hzn:zs.length=n) :
 Calls Tryz.prog 4 #[.int .i64 v,.agg #[.int .i64 a,.int .i64 b],.string s,.slice A n c] w fun e w'=>e=.returned (.bool true)/\Below w.heap.size w w':=by
 by_cases hbig:3000<s.size\/60<n
 ·exact qj1p v a b s A n c w hbig
 have hs6:¬3000<s.size:=by omega
 have hn6:¬60<n:=by omega
 cases hok:(verH v&&limB a b) with
 |false=>exact qdi7 v a b s A n c w hs6 hn6 hok
 |true=>
  have LV:=hid (qf34 (w.alloc (.cells #[.int .i64 a,.int .i64 b] 24)));have L0:=hid (qybm (w:=w) (.cells #[.int .i64 a,.int .i64 b] 24));have R0:=hid (heap_alloc_new w (.cells #[.int .i64 a,.int .i64 b] 24));obtain⟨m,rfl⟩:∃m:Nat,a=(m:Int):=⟨a.toNat,by
   rw[Bool.and_eq_true] at hok
   have:=hok.2
   unfold limB at this;simp at this;omega⟩
  have hm:16<=m/\m<=1048576:=by
   rw[Bool.and_eq_true] at hok
   have:=hok.2
   unfold limB at this;simp at this;omega
  have NW:=hid (fun W=>qn5h v (m:Int) b W);have SP:=hid (fun W=>qtuf v m b s W hok (by omega));have HM:=hid hm;have HOK:=hid hok;have HIR:=hid hA;have HZN:=hid hzn;have HS6:=hid (And.intro hs6 hn6);obtain⟨R,hR⟩:∃R,goW v m s.data.toList=R:=⟨_,rfl⟩
  rw[hR] at SP;have HR:=hid hR;have HLEFT:=hid (qe2x (v:=v) (m:=m) _ s.data.toList (Nat.le_refl _));rw[hR] at HLEFT;clear hm hA hzn hbig hok hR
  go_in
  go_wp2_with fail;refine LV.out.mono ?_;rintro e0 W0 ⟨rfl,hb0⟩;have B0:=hid (qxh2 L0.out hb0);have R1:=hid ((hb0.block _ (lt_of_block R0.out)).trans R0.out);have l0:W0.cell? ⟨w.heap.size,0,none⟩=some (.int .i64 (m:Nat)):=cell_of_row _ _ 0 _ _ _ R1.out;have l1:W0.cell? ⟨w.heap.size,1,none⟩=some (.int .i64 b):=cell_of_row _ _ 1 _ _ _ R1.out;clear hb0;go_wp2_with fail;refine(SP.out _).mono ?_;rintro e1 W1 ⟨A1,c1,l1',rfl,m1,H1,hb1⟩;have B1:=hid (qxh2 B0.out hb1);have R2:=hid ((hb1.block _ (lt_of_block R1.out)).trans R1.out);have k0:W1.cell? ⟨w.heap.size,0,none⟩=some (.int .i64 (m:Nat)):=cell_of_row _ _ 0 _ _ _ R2.out;have k1:W1.cell? ⟨w.heap.size,1,none⟩=some (.int .i64 b):=cell_of_row _ _ 1 _ _ _ R2.out;have M1:=hid m1;have H1:=hid H1;clear hb1 l0 l1 m1 SP;go_wp2_with fail;refine(NW.out _).mono ?_;intro e2 W2 hn;obtain⟨g,rfl,SB⟩:=StL.new hn HOK.out;have B2:=hid (qxh2 B1.out SB.low);have CT:=hid (q5bh s A n c zs W2 (HIR.out.kept B2.out) HZN.out (by have:=HS6.out.2;omega) (by have:=HS6.out.1;omega));have SB:=hid SB;have H2:=hid (H1.out.below SB.out.low);clear hn k0 k1 NW;go_wp2_with fail;refine CT.out.mono ?_;rintro e3 W3 ⟨A3,c3,rfl,sr3,hb3,hn3⟩;have HFL:=hid (qom4 s.data.toList zs);have hcl:(qhkp s.data.toList zs).length<=61:=by
   have h1:=q38n s.data.toList zs;have h2:=List.length_filter_le (okL s.data.toList.length) zs;rw[HZN.out] at h2
   have:=HS6.out.2
   omega
  obtain⟨CH,hCH⟩:∃CH,qhkp s.data.toList zs=CH:=⟨_,rfl⟩
  rw[hCH] at HFL sr3 hcl ⊢;have SB3:StrS W3 g v m (.slice none 0 0) [] 0 0 0 0:=SB.out.st.kept hb3.size fun i hi=>hb3.block i (hi.elim (fun e=>e▸SB.out.st.st.lt) (fun e=>nomatch e));have hg3:g<W3.heap.size:=SB3.st.lt;have T0:=hid (show CutL W3 g v m CH 0 (.slice none 0 0) 0 W3 from by refine⟨[],.slice none 0 0,[],0,0,[],⟨hg3,StK.refl _ _ _,.inl rfl,SB3.st,SB3.bf,SB3.kg,SB3.kg,SB3.kl,World.ownsRow_nil _ _ _ _,(fun e=>nomatch e),(fun i hi=>nomatch hi),(fun q hq=>nomatch hq)⟩,rfl,Nat.zero_le _,?_,SB3.sz⟩;exact qc57 (SB3.sz rfl).2)
  have HSR:=hid (And.intro sr3 (And.intro hb3 hn3));have H3:=hid (H2.out.below hb3);have HG:=hid (And.intro SB.out.gw (And.intro SB.out.st.st.lt hg3));have B3:=hid (qxh2 B2.out hb3);clear SB3 hg3 sr3 hb3 hn3 CT hCH;obtain⟨L,hL⟩:∃L,CH.length=L:=⟨_,rfl⟩
  have HL:=hid (And.intro hL hcl);rw[hL];clear hL hcl;go_wp2_with fail
  go_loopg [14,16] L (fun gk s14 s16 wr=>∃(j:Nat) (x:Value) (e:Nat),gk=L-j/\x=s14/\s16=.int .i64 (j:Int)/\CutL W3 g v m CH j x e wr)
  case atStart=>exact⟨0,_,0,rfl,rfl,rfl,T0.out⟩
  case round=>
   obtain⟨j,x,e,rfl,rfl,rfl,P,kv,K,z,k,G,hT,hP,hj,hgo,hz⟩:=hrel;clear T0;have hPl:P.length<=3000/\G.length<=P.length/\K.length+k<=P.length:=by have h1:=qqsp (v:=v) (m:=m) _ P (Nat.le_refl _);rw[hgo] at h1;simp only[List.length_map] at h1;have h2:=congrArg (fun l=>(List.flatten l).length) (List.take_append_drop j CH);simp only[List.flatten_append,List.length_append] at h2;rw[<-hP,HFL.out,<-q4ad] at h2;omega
   have hStr:StrS wr g v m kv K z k G.length e:=⟨hT.st,hT.bf,hT.kg,hT.kl,hz,fun h0=>by
    have:=qlnb (v:=v) (m:=m) _ P (Nat.le_refl _)
    rw[hgo] at this;exact this h0⟩
   rw[HL.out.1] at hj;have hL61:(L:Int)<=61:=by have:=HL.out.2;have:=HL.out.1;omega
   by_cases hlt:j<L
   ·have hjl:j<CH.length:=by rw[HL.out.1];exact hlt
    obtain⟨i,o,rfl,hi4,hcell⟩:=HSR.out.1 (fun e=>by rw[e] at hjl;simp at hjl);have hck:wr.cell? ⟨i,o+j,none⟩=some (.string (bs (CH.getD j []))):=(World.cell?_of_block (a:=⟨i,o+j,none⟩) (hT.kp.block i hi4 (by have:=HSR.out.2.2 i o rfl;have:=HG.out;omega) (fun e=>nomatch e))).trans (hcell j hjl);obtain⟨ct1,ct2⟩:=qngg hjl;rw[<-hP,HFL.out,<-q4ad] at ct2;have FD:=q9wl hStr (bs (CH.getD j [])) HM.out.2 HM.out.1 (by rw[q5zk];omega) (by omega) (by omega) (fun l hl=>qp1j (by rw[q5zk] at hl;omega));rw[qkd1] at FD;obtain⟨R',hR'⟩:∃R',fedS v m e K (CH.getD j [])=R':=⟨_,rfl⟩
    rw[hR'] at FD;have hRl:R'.1.length<=10000:=by have hm:=(qh8b (v:=v) (m:=m) (P:=P) (c:=CH.getD j [])).2;rw[hgo] at hm;simp only[hR'] at hm;have h1:=qqsp (v:=v) (m:=m) _ (P++CH.getD j []) (Nat.le_refl _);rw[hm] at h1;simp only[List.length_append,List.length_map] at h1;omega
    have HH:=hid (And.intro hP (And.intro hjl (And.intro hgo (And.intro hR' (And.intro hPl hRl)))));have HT:=hid hT;have FD:=hid FD;have HLT:=hid hlt;generalize bs (CH.getD j [])=cs at *;clear hT hP hj hgo hz hPl hStr hjl hi4 hcell ct1 ct2 hR' hRl;go_wp2_with fail;refine FD.out.mono ?_;intro e5 W5 hr;obtain⟨A5,c5,l5,kv5,z5,x5,W6,rfl,m5,hrun,T5,hz5⟩:=HT.out.gather hr (by have:=HH.out;omega);have NEW:=hid (CutL.step HH.out.1 HH.out.2.1 HH.out.2.2.1 HH.out.2.2.2.1 m5 T5 hz5);clear hr T5 m5 hz5;go_wp2_with (at_builtin;refine qrfq rfl _ _ _ _ rfl rfl rfl hrun ?_)
    go_roundg (L-(j+1))
    case measure=>have:=HLT.out;omega
    case rel=>
     refine⟨j+1,_,_,rfl,rfl,?_,NEW.out⟩
     first|go_num|exact congrArg (Value.int IntKind.i64) (by unfold wrap64;omega)
   ·obtain rfl:j=L:=by omega
    have hPs:P=s.data.toList:=by rw[hP,<-HL.out.1,List.take_length,HFL.out]
    rw[hPs,HR.out] at hgo;subst hgo;simp only at M1 HLEFT;have HX:=StK.below (qxh2 SB.out.low HSR.out.2.1) hT.kp HG.out.1 (fun b e=>nomatch e);have pk1:PKL wr A1 l1':=H1.out.pk.below HX;have LW:=hid (qxh2 B1.out HX);obtain⟨Ax,cx,hx,hcx,hcl,-⟩:=CL.owned hT.ow (q6wm G);have pk2:PKL wr Ax G:=⟨hcl,fun q hq=>(hT.pk q hq).1⟩
    have hl1:l1'.length=G.length:=by have:=congrArg List.length M1.out;simpa using this
    have SS:=hid (qqev Ax A1 G.length cx c1 G l1' wr pk2 pk1 rfl M1.out (fun q hq=>(hT.pk q hq).2.1.2) (by omega));obtain⟨BK,dK,hkB,-,-⟩:=id hStr.bf;have FA:=hid (show ∀W,Below wr.heap.size wr W->StrS W g v m (.slice BK K.length dK) K z k G.length e from fun W h=>by rw[<-hkB];exact hStr.kept h.size fun i hi=>h.block i (hi.elim (fun e=>e▸hStr.st.lt) (hStr.kl i)));have hkl:e=0->(K.length:Int)=(s.size:Int)-(k:Int):=fun h0=>by obtain⟨h1,h2⟩:=HLEFT.out h0;have h3:=congrArg List.length h1;rw[List.length_drop,<-q4ad] at h3;rw[<-q4ad] at h2;omega
    have hks:(k:Int)<=3000:=by omega
    have hsz:(s.size:Int)<=3000:=by omega
    subst hx;generalize K.length=q at *;generalize G.length=y at *;rw[hl1];have hlt':¬j<j:=Nat.lt_irrefl j;clear hT hP hj hz hPl hStr hlt hPs HX pk1 pk2 hcx hcl hl1 hkB H1 H2 H3 M1 HSR HLEFT;by_cases h0:e=0
    ·subst h0;have hk0:=hkl rfl;clear hkl;go_wp2_with fail;refine SS.out.mono ?_;rintro e6 W6 ⟨rfl,hb6⟩;have F6:=FA.out _ hb6;have E1:=hid (qzg4 F6.st);have T1:=hid (qxbb F6.st);have K1:=hid (qozv F6.st);have LL:=hid (qxh2 LW.out hb6);clear hb6 F6 SS;go_wp2_with fail;refine E1.out.mono ?_;rintro e7 W7 ⟨rfl,rfl⟩;go_wp2_with fail;refine T1.out.mono ?_;rintro e8 W8 ⟨rfl,rfl⟩;go_wp2_with fail;refine K1.out.mono ?_;rintro e9 W9 ⟨rfl,rfl⟩;go_wp2;go_ret;exact⟨rfl,LL.out⟩
    ·have g1:((e:Int) != 0)=true:=by simp;omega
     clear hkl;go_wp2_with fail;refine SS.out.mono ?_;rintro e6 W6 ⟨rfl,hb6⟩;have F6:=FA.out _ hb6;have E1:=hid (qzg4 F6.st);have T1:=hid (qxbb F6.st);have K1:=hid (qozv F6.st);have LL:=hid (qxh2 LW.out hb6);clear hb6 F6 SS;go_wp2_with fail;refine E1.out.mono ?_;rintro e7 W7 ⟨rfl,rfl⟩;go_wp2_with fail;refine T1.out.mono ?_;rintro e8 W8 ⟨rfl,rfl⟩;go_wp2;go_ret;exact⟨rfl,LL.out⟩
end Go.Proofs.YtefmhbioggcfaaaGreatDoor
