/- The walk of MqttAll. Condition: the packets' fields are what their types hold. -/
import Derived.Test.YtombgnfedafkjaaGreatDoorK51
import Derived.Test.YtombgnfedafkjaaGreatDoorK52
set_option maxHeartbeats 8000000
set_option maxRecDepth 100000
namespace Go.Proofs.YtombgnfedafkjaaGreatDoor
open Lib(hid)
open Proofs.Tryz
open Go.RowKit
structure GdM(v:Int)(w:World)(q:Pa):Prop where
 val:q8s2 v q.1=0
 short:q21o q.1
 lies:PkAt w q.1 q.2
 fit:FitM q.1
def qlex(v:Int)(G:List Pa):List UInt8:=(G.map (·.1)).flatMap (rawM v)
theorem qwg1(v:Int)(G:List Pa)(q:Pa):qlex v (G++[q])=qlex v G++rawM v q.1:=by simp[qlex]
theorem qear{v:Int}{w:World}{G:List Pa}(h:∀q∈G,GdM v w q):(qlex v G).length<=G.length*268435460:=by
 have:=qz1a (v:=v) (L:=G.map (·.1)) (fun p hp=>by obtain⟨q,hq,rfl⟩:=List.mem_map.1 hp;exact(h q hq).val)
 rwa [List.length_map] at this
def GatM(v:Int)(w:World)(n k:Nat)(s7 s8 s9 i:Value)(W:World):Prop:=
 ∃G:List Pa,s7=.string (bs (qlex v G))/\i=.int .i64 (k:Int)/\k<=n/\G.length<=k/\(∀q∈G,GdM v w q)/\AlS w s8 s9 G (q0x9 v (G.map (·.1))) W
theorem q2ln(v c:Int)(A:Option Addr)(n cc:Nat)(l:List Pa)(w:World)(hl:l.length=n)(hP:PKL w A l)(ok:∀q∈l,PaOk q)(hn:n<=9223372036854775807) :
 Calls prog 6 #[.int .i64 v,.slice A n cc,.int .i64 c] w fun e w'=>e=.returned (.bool true)/\Below w.heap.size w w':=by
 by_cases h12:12<n
 ·have hd:decide ((12:Int)<(n:Int))=true:=decide_eq_true (by omega);clear hl hP ok hn h12;go_in;go_wp2_with fail;refine(qlkh _).mono ?_;rintro e W ⟨rfl,hb⟩;have L1:=hid hb;clear hb;go_wp2;go_ret;exact⟨rfl,L1.out⟩
 have hd:decide ((12:Int)<(n:Int))=false:=decide_eq_false (by omega);have HN:=hid (show n<=12 by omega);have HL:=hid hl;have HP:=hid hP;have OK:=hid ok;clear hl hP ok hn h12;obtain⟨i0,hi,hz0,hz1,hz2⟩:=info_parts qbcq;obtain⟨j0,hj,hy0,hy1,hy2⟩:=info_parts qwz0;go_in;go_wp2_with fail;refine(qlkh _).mono ?_;rintro e W0 ⟨rfl,hb⟩;have S0:=hid ((AlS.made w).call hb);clear hb;go_wp2_with fail
 go_loopg [7,8,9,10] n (fun gk s7 s8 s9 s10 wr=>∃(k:Nat) (x8 x9:Value),gk=n-k/\x8=s8/\x9=s9/\GatM v w n k s7 x8 x9 s10 wr)
 case atStart=>exact⟨0,_,_,rfl,rfl,rfl,[],rfl,rfl,Nat.zero_le _,Nat.le_refl _,fun q hq=>(nomatch hq),S0.out⟩
 case round=>
  obtain⟨k,x8,x9,rfl,rfl,rfl,G,rfl,rfl,hk,hgk,hG,hS⟩:=hrel;have S1:=hid hS;have HG:=hid hG;have HGK:=hid hgk;clear hS hG hgk S0;by_cases hlt:k<n
  ·have hkl:k<l.length:=by rw[HL.out];exact hlt
   obtain⟨⟨P,a⟩,hp⟩:∃p,l[k]?=some p:=⟨_,List.getElem?_eq_getElem hkl⟩
   have PA:=HP.out.get hp;have PO:=OK.out _ (List.mem_of_getElem? hp);obtain⟨g,o,rfl,la,ca⟩:=HP.out.at hp;have HLT:=hid hlt;have g1:(k:Int)<(n:Int):=by omega
   have CA:=hid (fun W (h:Below w.heap.size w W) (j:Nat) (v:Value) (hv:(pkC P a)[j]?=some v)=>(show W.cell? ((⟨g,o+k*25,none⟩:Addr).add j)=some v by rw[Addr.add_lit];exact(World.cell?_of_block (a:=⟨g,o+k*25+j,none⟩) (h.block g la)).trans (ca j v hv)));have ZA:=hid (qwmp P a);have ZO:=hid (qmz0 P a);have LG:=fun W (h:AlS w x8 x9 G (q0x9 v (G.map (·.1))) W)=>(q1dl P a W (PA.below h.low) PO.ok).mono fun e W' hh=>(⟨hh.1,h.call hh.2⟩:_/\AlS w x8 x9 G (q0x9 v (G.map (·.1))) W')
   cases hlk:qa3g P with
   |false=>rw[hlk] at LG;replace LG:=hid LG;clear hp hkl PA PO la ca hlk hlt hk;unfold pkV at *;go_wp2_with (refine ql0m rfl 32 _ rfl ⟨g,o+k*25,none⟩ rfl (pkC P a) _ (CA.out _ S1.out.low) underlying32 rfl (by rw[ZA.out];exact q5nr) ?_);refine(LG.out _ S1.out).mono ?_;rintro e W1 ⟨rfl,hb⟩;have L1:=hid hb.low;clear hb;go_wp2;go_ret;exact⟨rfl,L1.out⟩
   |true=>
    rw[hlk] at LG;have sh:=q2qrt hlk;have sp:q21o P:=⟨by omega,by omega,by omega,by omega⟩
    have BY:=fun W (h:AlS w x8 x9 G (q0x9 v (G.map (·.1))) W)=>(qlum v P a W (PA.below h.low) sp PO.ok ⟨PO.cap.pc,fun _=>PO.cap⟩).mono fun e W' hh=>(⟨hh.1,h.call hh.2⟩:_/\AlS w x8 x9 G (q0x9 v (G.map (·.1))) W')
    rw[qed1] at BY;replace LG:=hid LG;by_cases hv:q8s2 v P=0
    ·rw[hv,if_pos rfl] at BY;have GD:GdM v w (P,a):=⟨hv,sp,PA,⟨PO.ok,sp⟩⟩
     have hfl:=qear HG.out;have hrl:=qu4s hv;have J:qr8t (bs (qlex v G)) (bs (rawM v P)) (bs (qlex v (G++[(P,a)]))):=by rw[qwg1];exact⟨qyv7 _ _,by rw[q5zk,q5zk];have:=HN.out;have:=HGK.out;omega⟩
     have HJ:=hid J;have HGD:=hid GD;have hes:q0x9 v ((G++[(P,a)]).map (·.1))=q0x9 v (G.map (·.1))++[(((bs (qlex v (G++[(P,a)]))).size:Nat):Int)]:=by rw[q5zk,List.map_append,List.map_singleton,qd7n];unfold qlex;rw[List.map_append,List.map_singleton]
     have HES:=hid hes;replace BY:=hid BY;have HELE:=hid (show(q0x9 v (G.map (·.1))).length=G.length by rw[q4fg,List.length_map]);obtain⟨E,hE⟩:∃E,q0x9 v (G.map (·.1))=E:=⟨_,rfl⟩
     rw[hE] at LG BY S1 HES HELE;clear hp hkl PA PO la ca hlk hlt hk sh sp hv GD hfl hrl J hes hE;unfold pkV at *;obtain⟨D,hD⟩:∃D,pkC P a=D:=⟨_,rfl⟩
     rw[hD] at LG BY CA ZA ZO;have HD:=hid hD;clear hD;obtain⟨Z,hZ⟩:∃Z,bs (qlex v (G++[(P,a)]))=Z:=⟨_,rfl⟩
     rw[hZ] at HJ HES;have HZE:=hid hZ;clear hZ;go_wp2_with (refine ql0m rfl 32 _ rfl ⟨g,o+k*25,none⟩ rfl D _ (CA.out _ S1.out.low) underlying32 rfl (by rw[ZA.out];exact q5nr) ?_);refine(LG.out _ S1.out).mono ?_;rintro e W1 ⟨rfl,hb⟩;have S2:=hid hb;clear hb S1;go_wp2_with (refine ql0m rfl 32 _ rfl ⟨g,o+k*25,none⟩ rfl D _ (CA.out _ S2.out.low) underlying32 rfl (by rw[ZA.out];exact q5nr) ?_);refine(BY.out _ S2.out).mono ?_;rintro e W2 ⟨rfl,hb⟩;have S3:=hid hb;have j1:=HJ.out.1;have j2:=HJ.out.2;clear hb S2;generalize bs (rawM v P)=Y at *;have CB:=hid (fun(j:Nat) (u:Value) (hj:D.toList[j]?=some u)=>(show(W2.alloc (.cells D 32)).cell? ((⟨W2.heap.size,0,none⟩:Addr).add j)=some u by rw[Addr.add_lit,Nat.zero_add];exact(cell_of_row _ _ j _ _ _ (heap_alloc_new W2 _)).trans (by simpa using hj)))
     have SA:=hid (S3.out.call (qybm (.cells D 32)));go_wp2_with (first
      |(refine ql0m rfl 32 _ rfl ⟨g,o+k*25,none⟩ rfl D _ (CA.out _ S3.out.low) underlying32 rfl (by rw[ZA.out];exact q5nr) ?_)
      |(refine wpList_buildSlice rfl 37 32 1 _ rfl D i0 (.agg pkZ) underlying37 hi hz0 (by rw[hz1];decide) (by rw[hz1];decide) (by rw[hz1,<-HD.out];kernel_rfl) ?_)
      |(at_builtin;refine wpList_append_own_at _ rfl _ _ 37 rfl w.heap.size 32 i0 (.agg pkZ) 25 312 underlying37 hi hz0 hz1 hz2 rfl (by decide) _ _ _ rfl SA.out.o8 ⟨W2.heap.size,0,none⟩ 1 1 D.toList rfl ?c0 CB.out ?c1 ?c2 ?c3 SA.out.size ?_))
     case c0=>rw[Array.length_toList,ZA.out]
     case c1=>exact fun u hu=>(Array.all_eq_true'.1 ZO.out) u (by simpa using hu)
     case c2=>have:=HGK.out;have:=HN.out;simp only[maxLen];omega
     case c3=>have:=HGK.out;have:=HN.out;omega
     intro x8' W3 ho hg _ hor;rw[<-HD.out] at ho;have S4:=hid (SA.out.app8 (q:=(P,a)) ho hg (by rw[World.size_alloc];exact hor));have SB:=hid (S4.out.call (qybm (.cells #[.int .i64 (Z.size:Int)] 3)));have CC:=hid (fun(j:Nat) (u:Value) (hj:[Value.int .i64 (Z.size:Int)][j]?=some u)=>(show(W3.alloc (.cells #[.int .i64 (Z.size:Int)] 3)).cell? ((⟨W3.heap.size,0,none⟩:Addr).add j)=some u by rw[Addr.add_lit,Nat.zero_add];exact(cell_of_row _ _ j _ _ _ (heap_alloc_new W3 _)).trans (by simpa using hj)))
     clear ho hg hor SA CB S3 j1 j2;go_wp2_with (at_builtin;refine wpList_append_own_at _ rfl _ _ 29 rfl w.heap.size 3 j0 (.int .i64 0) 1 8 underlying29 hj hy0 hy1 hy2 rfl (by decide) _ _ _ rfl SB.out.o9 ⟨W3.heap.size,0,none⟩ 1 1 [.int .i64 (Z.size:Int)] rfl rfl CC.out ?c1 ?c2 ?c3 SB.out.size ?_)
     case c1=>intro u hu;simp at hu;subst hu;rfl
     case c2=>have:=HELE.out;have:=HGK.out;have:=HN.out;simp only[maxLen];omega
     case c3=>have:=HELE.out;have:=HGK.out;have:=HN.out;omega
     intro x9' W4 ho hg _ hor;have S5:=hid (SB.out.app9 ho hg (by rw[World.size_alloc];exact hor));clear ho hg hor SB CC S4;go_wp2_with fail
     go_roundg (n-(k+1))
     case measure=>have:=HLT.out;omega
     case rel=>
      refine⟨k+1,x8',x9',rfl,rfl,rfl,G++[(P,a)],by rw[HZE.out],?_,HLT.out,?_,fun q hq=>?_,by rw[HES.out];exact S5.out⟩
      ·first|go_num|exact congrArg (Value.int IntKind.i64) (by have:=HLT.out;have:=HN.out;unfold wrap64;omega)
      ·rw[List.length_append,List.length_singleton];have:=HGK.out;omega
      ·rcases List.mem_append.1 hq with h|h
       ·exact HG.out q h
       ·obtain rfl:q=(P,a):=by simpa using h
        exact HGD.out
    ·generalize (if q8s2 v P=0 then rawM v P else [])=Y at *;generalize q8s2 v P=F at *;have f1:((F:Int)==0)=false:=by simp;omega
     replace BY:=hid BY;clear hp hkl PA PO la ca hlk hlt hk sh sp hv;unfold pkV at *;obtain⟨D,hD⟩:∃D,pkC P a=D:=⟨_,rfl⟩
     rw[hD] at LG BY CA ZA ZO;clear hD;go_wp2_with (refine ql0m rfl 32 _ rfl ⟨g,o+k*25,none⟩ rfl D _ (CA.out _ S1.out.low) underlying32 rfl (by rw[ZA.out];exact q5nr) ?_);refine(LG.out _ S1.out).mono ?_;rintro e W1 ⟨rfl,hb⟩;have S2:=hid hb;clear hb S1;go_wp2_with (refine ql0m rfl 32 _ rfl ⟨g,o+k*25,none⟩ rfl D _ (CA.out _ S2.out.low) underlying32 rfl (by rw[ZA.out];exact q5nr) ?_);refine(BY.out _ S2.out).mono ?_;rintro e W2 ⟨rfl,hb⟩;have S3:=hid hb;clear hb S2;go_wp2_with fail
     go_roundg (n-(k+1))
     case measure=>have:=HLT.out;omega
     case rel=>
      refine⟨k+1,x8,x9,rfl,rfl,rfl,G,rfl,?_,HLT.out,?_,HG.out,S3.out⟩
      ·first|go_num|exact congrArg (Value.int IntKind.i64) (by have:=HLT.out;have:=HN.out;unfold wrap64;omega)
      ·have:=HGK.out;omega
  ·obtain rfl:k=n:=by omega
   clear hlt hk
   go_upto_region 17 with fail
   have VR:=hid (qzwz v);cases hver:verH v with
   |false=>
    have hnil:G=[]:=by
     cases hG0:G with
     |nil=>rfl
     |cons q G'=>exact absurd (HG.out q (by rw[hG0];exact List.mem_cons_self ..)).val (by rw[q3fw hver];decide)
    subst hnil;obtain⟨A8,c8,rfl,_,_⟩:=S1.out.list (fun q hq=>(nomatch hq));have AL:=fun W=>q3kd v ⟨#[]⟩ W (by decide) (q1aj _ (by decide));rw[show(⟨#[]⟩:ByteArray).size+1=1 from rfl,show(⟨#[]⟩:ByteArray).data.toList=[] from rfl,qrl5 hver] at AL;rw[hver] at VR;have LO:=hid S1.out.low;have AL:=hid AL;clear hver S1 HG;go_wp2_with fail;refine(VR.out _).mono ?_;rintro e W1 ⟨rfl,rfl⟩;go_wp2_with fail;refine(AL.out _).mono ?_;rintro e W2 ⟨A9,c9,l9,rfl,hl9,_,_,_,hb⟩;have hl9:l9=[]:=by simpa using hl9
    subst hl9;have L2:=hid (qxh2 LO.out hb);clear hb;go_wp2;go_ret;exact⟨rfl,L2.out⟩
   |true=>
    rw[hver] at VR;have hfl:=qear HG.out;have HX:=hid (show(bs (qlex v G)).size<=3221225520 by rw[q5zk];have:=HGK.out;have:=HN.out;omega);clear hfl;have hpos:(0:Int)<((bs (qlex v G)).size:Int)+1:=by omega
    obtain⟨kk,hkk⟩:∃i:Nat,c%(((bs (qlex v G)).size:Int)+1)=(i:Int):=⟨(c%(((bs (qlex v G)).size:Int)+1)).toNat,by have:=Int.emod_nonneg c (b:=((bs (qlex v G)).size:Int)+1) (by omega);omega⟩
    have hk2:kk<=(bs (qlex v G)).size:=by have:=Int.emod_lt_of_pos c hpos;omega
    have PK:=fun W=>qhhox c (((bs (qlex v G)).size:Int)+1) W hpos (by have:=HX.out;omega);rw[hkk] at PK;replace PK:=hid PK;have HK2:=hid hk2;have HVE:=hid hver;clear hpos hkk hk2 hver;go_wp2_with fail;refine(VR.out _).mono ?_;rintro e W1 ⟨rfl,rfl⟩;have hzz:((bs (qlex v G)).size:Int)<=4000000000:=by have:=HX.out;omega
    obtain⟨Z,hZ⟩:∃Z,bs (qlex v G)=Z:=⟨_,rfl⟩
    rw[hZ] at PK HX HK2 hzz ⊢;have HZE:=hid hZ;clear hZ;go_wp2_with fail;refine(PK.out _).mono ?_;rintro e W2 ⟨rfl,rfl⟩;clear hzz;obtain⟨L,hL⟩:∃L,G.map (·.1)=L:=⟨_,rfl⟩
    have hLl:L.length=G.length:=by rw[<-hL,List.length_map]
    have hGV:∀p∈L,q8s2 v p=0:=fun p hp=>by rw[<-hL] at hp;obtain⟨q,hq,rfl⟩:=List.mem_map.1 hp;exact(HG.out q hq).val
    have hGS:∀p∈L,q21o p:=fun p hp=>by rw[<-hL] at hp;obtain⟨q,hq,rfl⟩:=List.mem_map.1 hp;exact(HG.out q hq).short
    have hZd:Z.data.toList=L.flatMap (rawM v):=by rw[<-HZE.out,qkd1,qlex,hL]
    rw[hL] at S1;obtain⟨A9,c9,rfl,E9⟩:=S1.out.ends;rw[q4fg,hLl];have PG:=S1.out.list (fun q hq=>(HG.out q hq).lies);obtain⟨A8,c8,rfl,hc8,PG⟩:=PG;have HA8:(A8=none/\G.length=0)\/∃g,A8=some ⟨g,0,none⟩:=by
     rcases S1.out.o8.2 with ⟨h,h0⟩|⟨g,cap,cur,h,_⟩
     ·exact .inl ⟨(Value.slice.inj h).1,h0⟩
     ·exact .inr ⟨g,(Value.slice.inj h).1⟩
    have HGV:=hid (And.intro hGV (And.intro hGS (And.intro hZd (And.intro hLl hL))));have HC8:=hid hc8;have HPG:=hid PG;have HE9:=hid E9;have LO:=hid S1.out.low;obtain⟨m,hm⟩:∃m,G.length=m:=⟨_,rfl⟩
    have HM:=hid hm;rw[hm] at HA8 HC8 HGK ⊢;have hm12:(m:Int)<=12:=by have:=HGK.out;have:=HN.out;omega
    clear hLl hGV hGS hZd hL hc8 PG E9 S1 hm HG;go_wp2_with fail
    go_loopg [17,18] m (fun gk s17 s18 wx=>∃j:Nat,gk=m-j/\s17=.int .i64 (j:Int)/\s18=.int .i64 ((lenM v L j:Nat):Int)/\j<=m/\lenM v L j<=kk/\wx=wr)
    case atStart=>exact⟨0,rfl,rfl,rfl,Nat.zero_le _,Nat.zero_le _,rfl⟩
    case round=>
     obtain⟨j,rfl,rfl,rfl,hj1,hj2,rfl⟩:=hrel;have CE:j<m->∃g i,A9=some ⟨g,i,none⟩/\g<wr.heap.size/\wr.cell? ⟨g,i+j,none⟩=some (.int .i64 ((lenM v L (j+1):Nat):Int)):=fun h=>HE9.out.int (qzih v L (by rw[HGV.out.2.2.2.1,HM.out];exact h));have h3:(j<m/\lenM v L (j+1)<=kk)\/((j<m/\¬lenM v L (j+1)<=kk)\/j=m):=by omega
     have H1:=hid hj1;have H2:=hid hj2;clear hj1 hj2;rcases h3 with ⟨hlt,hle⟩|h3
     ·obtain⟨g,i,rfl,_,hc⟩:=CE hlt;have HLT:=hid hlt;have HLE:=hid hle;have g1:(j:Int)<(m:Int):=by omega
      obtain⟨z,hz⟩:∃z,lenM v L (j+1)=z:=⟨_,rfl⟩
      rw[hz] at hc hle HLE;have HZZ:=hid hz;clear hz CE;have d1:decide ((z:Int)<=(kk:Int))=true:=decide_eq_true (by omega);clear hlt;go_wp2_with fail
      go_roundg (m-(j+1))
      case measure=>have:=HLT.out;omega
      case rel=>exact⟨j+1,rfl,by first|go_num|exact congrArg (Value.int IntKind.i64) (by have:=HLT.out;have:=HGK.out;have:=HN.out;unfold wrap64;omega),by rw[HZZ.out],HLT.out,by rw[HZZ.out];exact HLE.out,rfl⟩
     ·have h2:j=m\/kk<lenM v L (j+1):=by omega
      have hLm:L.length=m:=by rw[HGV.out.2.2.2.1,HM.out]
      obtain⟨AC1,AC2⟩:=q5t0 (v:=v) (L:=L) (j:=j) (k:=kk) HVE.out HGV.out.1 HGV.out.2.1 (by rw[hLm];exact H1.out) H2.out (by rw[hLm];exact h2);have hzx:(Z.extract 0 kk).data.toList=(L.flatMap (rawM v)).take kk:=by rw[q7xj,qkd1,HGV.out.2.2.1]
      have hzs:(Z.extract 0 kk).size=((L.flatMap (rawM v)).take kk).length:=by rw[q7xj,q5zk,HGV.out.2.2.1]
      have AL:=fun W=>q3kd v (Z.extract 0 kk) W (by rw[ByteArray.size_extract];have:=HX.out;omega) (by rw[hzx,hzs];exact AC2);rw[hzx,hzs,AC1] at AL;have SP:∀A' c' (l':List Pa) W,Below wr.heap.size wr W->l'.map (·.1)=L.take j->PKL W A' l'->(∀q∈l',FitM q.1)->Calls prog 19 #[.slice A' l'.length c',.slice A8 j c8] W fun e W'=>e=.returned (.bool true)/\Below W.heap.size W W':=fun A' c' l' W hb hl' hp' hf'=>by
       have hlj:l'.length=j:=by
        have:=congrArg List.length hl'
        rw[List.length_map,List.length_take,hLm] at this
        have:=H1.out
        omega
       have:=qqev A' A8 j c' c8 l' (G.take j) W hp' ((HPG.out.below hb).take j) hlj (by rw[hl',<-HGV.out.2.2.2.2,List.map_take]) (fun q hq=>(hf' q hq).2) (by have:=H1.out;have:=HGK.out;have:=HN.out;omega)
       rwa [<-hlj] at this ⊢
      have hj8:(j:Int)<=(c8:Int):=by have:=H1.out;have:=HC8.out;omega
      have hk3:(kk:Int)<=(Z.size:Int):=by have:=HK2.out;omega
      obtain⟨y,hy⟩:∃y,lenM v L j=y:=⟨_,rfl⟩
      rw[hy] at AL ⊢;replace AL:=hid AL;have SPH:=hid SP;have HCE:=hid CE;have HJ8:=hid hj8;clear h2 hLm AC1 AC2 hzx hzs SP hy CE hj8;refine Or.elim h3 (fun hx=>?exitA) (fun hx=>?exitB)
      case' exitA=>
       obtain⟨hlt,hle⟩:=hx;obtain⟨g,i,rfl,_,hc⟩:=HCE.out hlt;have g1:(j:Int)<(m:Int):=by omega
       generalize lenM v L (j+1)=z at *;have d1:decide ((z:Int)<=(kk:Int))=false:=decide_eq_false (by omega);clear hlt
       go_upto_region 25 with fail
       clear hc g1 d1 hle
      case' exitB=>
       subst hx
       go_upto_region 25 with fail
      all_goals
       go_wp2_with fail;refine(AL.out _).mono ?_;rintro e W2 ⟨A',c',l',rfl,hl',_,hp',hf',hb⟩;have L2:=hid (qxh2 LO.out hb);have SPW:=hid (SPH.out A' c' l' W2 hb hl' hp' hf');have hj9:=HJ8.out;clear hb hl' hp' hf' hk3;rcases HA8 with ⟨rfl,-⟩|⟨g8,rfl⟩
       all_goals go_wp2_with fail;refine(SPW.out).mono ?_;rintro e W3 ⟨rfl,hb⟩;have L3:=hid (qxh2 L2.out hb);clear hb;go_wp2;go_ret;exact⟨rfl,L3.out⟩
end Go.Proofs.YtombgnfedafkjaaGreatDoor
