/- The contract of subscribe.Body. Condition: the packet's fields are what their types hold; at most 70,000 elements a list; properties within their capacity. -/
import Derived.Deep.LoopGhost
import Derived.Test.YtbecggefmbpnoaaGreatDoorK34
import Derived.Test.YtbecggefmbpnoaaGreatDoorK36
import Derived.Test.YtbecggefmbpnoaaGreatDoorK40
import Derived.Test.YtbecggefmbpnoaaGreatDoorK17
set_option maxRecDepth 100000
set_option maxHeartbeats 4000000
namespace Go.Proofs.YtbecggefmbpnoaaGreatDoor
open Go.RowKit
structure BdS(w:World)(p:Pk)(a:Ad)(b:Nat)(l:List UInt8)(W:World):Prop where
 bx:BxS w p a W
 lo:w.heap.size < b
 sb:SbAt b l W
theorem BdS.call{w W W':World}{p:Pk}{a:Ad}{b:Nat}{l:List UInt8}(h:BdS w p a b l W)(hb:Below W.heap.size W W'):BdS w p a b l W':=⟨h.bx.call hb,h.lo,h.sb.call hb⟩
theorem BdS.wrote{w W W':World}{p:Pk}{a:Ad}{b:Nat}{l m:List UInt8}(h:BdS w p a b l W)(hb:Below b W W')(hs:SbAt b m W'):BdS w p a b m W':=
 ⟨⟨h.bx.low.trans (hb.mono (Nat.le_of_lt h.lo)),(hb.block _ h.lo).trans h.bx.box⟩,h.lo,hs⟩
theorem q2gn{kind:Int}{f:Fi}(h:qecx f.topic=true):(qjk5 kind f).length≤65538:=by
 have hlt:f.topic.length≤65535:=((qbv6 _).1 h).1
 unfold qjk5
 rw[List.length_append,q9ic]
 split
 ·simp;omega
 ·simp;omega
theorem q12b{kind:Int}:∀{l:List Fi},(∀f∈l,qecx f.topic=true)→(l.flatMap (qjk5 kind)).length≤l.length*65538
 | [],_=>Nat.le_refl _
 | f::l,h=>by
  have h1:=q2gn (kind:=kind) (h f (List.mem_cons_self ..))
  have h2:=q12b (kind:=kind) (l:=l) (fun g hg=>h g (List.mem_cons_of_mem _ hg))
  rw[List.flatMap_cons,List.length_append,List.length_cons]
  omega
theorem qki5{α:Type}{l:List α}{k:Nat}{x:α}(h:l[k]? = some x):l.take (k+1)=l.take k++[x]:=by
 obtain⟨hk,hx⟩:=List.getElem?_eq_some_iff.1 h
 rw[List.take_succ_eq_append_getElem hk,hx]
theorem q72b(v:Int)(p:Pk)(a:Ad)(w:World)(hp:PkAt w p a)(sp:q21o p)(ok:PkOk p)(hc:p.props.length≤a.pc)(hv:q3m2 v p≠0) :
 Calls Tryz.prog 10 #[.int .i64 v,.agg (pkC p a)] w fun e w'=>e = .returned (.tuple #[.string ⟨#[]⟩,.int .i64 (q3m2 v p:Nat)])∧Below w.heap.size w w':=by
 have S0:=Lib.hid (BxS.made w p a)
 have C1:=Lib.hid (qwmp p a)
 have VA:=fun W (h:BxS w p a W)=>(qeuk v p a W (hp.below h.low) sp ok hc).mono fun e W' hh=>(⟨hh.1,h.call hh.2⟩:_∧BxS w p a W')
 generalize q3m2 v p=R at *
 have hr1:((R:Int)==0)=false:=by simp;omega
 have hr2:((R:Int) != 0)=true:=by simp;omega
 replace VA:=Lib.hid VA
 clear hv hp sp ok hc
 go_enter Tryz.func10,Tryz.ntmps10
 go_wp2_with (refine wpList_load_row rfl _ _ rfl w.heap.size rfl 29 _ (0,0) _ S0.out.box Tryz.underlying29 rfl (by rw[C1.out];exact q5nr) ?_)
 refine(VA.out _ S0.out).mono ?_
 rintro e W ⟨rfl,hb⟩
 have LO:=Lib.hid hb.low
 clear hb
 go_wp2_with fail
 go_ret2
 exact⟨rfl,LO.out⟩
theorem qns4(v:Int)(p:Pk)(a:Ad)(w:World)(hp:PkAt w p a)(sp:q21o p)(ok:PkOk p)(hc:p.props.length≤a.pc)(hv:q3m2 v p=0) :
 Calls Tryz.prog 10 #[.int .i64 v,.agg (pkC p a)] w fun e w'=>e = .returned (.tuple #[.string (bs (rawS v p)),.int .i64 0])∧Below w.heap.size w w':=by
 have S0:=Lib.hid (BxS.made w p a)
 have C1:=Lib.hid (qwmp p a)
 have VA:=fun W (h:BxS w p a W)=>(qeuk v p a W (hp.below h.low) sp ok hc).mono fun e W' hh=>(⟨hh.1,h.call hh.2⟩:_∧BxS w p a W')
 rw[hv] at VA
 obtain⟨ho,hr,hfE,hcE⟩:=q87v hv
 obtain⟨h45,hk,hu,hi,h4,-⟩:=ok_s ho
 have lt:=qp2i hr
 have PR:=fun W (h:BxS w p a W)=>qhoa v p a W (hp.below h.low).ps ok hc
 have hfv:∀f∈p.filters,qecx f.topic=true:=fun f hf=>qme0 (q267 hfE f hf).1
 have hkk:p.filters≠[]→p.kind=8∨p.kind=10:=fun hne=>by
  rcases q9zy hk with ⟨_,h⟩ | ⟨ha,_⟩
  ·exact h
  ·exact absurd ((qmqi hu).2 ha) hne
 have FB:=fun f (hf:f∈p.filters) W=>qpa5 p.kind f W (hkk (List.ne_nil_of_mem hf)) (hfv f hf)
 have fl:=fun k=>q12b (kind:=p.kind) (l:=p.filters.take k) (fun f hf=>hfv f (List.mem_of_mem_take hf))
 have hcr:∀c∈p.codes,0≤c∧c < 163:=fun c hm=>qzk9 (q6r9 hcE c hm)
 obtain⟨n,hn⟩:∃n:Nat,p.id=n:=⟨p.id.toNat,by omega⟩
 have hn2:(n:Int) < 65536:=by omega
 have PU:=fun W=>qe3g n 2 W (by omega)
 rw[show(min (2:Int) 16).toNat=2 from rfl] at PU
 have K0:∀W,BxS w p a W→W.cell? ⟨w.heap.size,0,none⟩=some (.int .i64 p.kind):=fun W h=>h.cell 0
 have K4:∀W,BxS w p a W→W.cell? ⟨w.heap.size,4,none⟩=some (.int .i64 p.id):=fun W h=>h.cell 4
 have K22:∀W,BxS w p a W→W.cell? ⟨w.heap.size,22,none⟩=some (.slice a.cs p.codes.length a.cc):=fun W h=>h.cell 22
 have K23:∀W,BxS w p a W→W.cell? ⟨w.heap.size,23,none⟩=some (.slice a.fs p.filters.length a.fc):=fun W h=>h.cell 23
 rw[hn] at K4
 have hraw:rawS v p=be n 2++(qasq v p.kind p.props++(p.filters.flatMap (qjk5 p.kind)++q56c p.codes)):=by
  unfold rawS;rw[hn,Int.toNat_natCast]
 rw[hraw]
 have hb2:(be n 2).length=2:=q0rl _ _
 obtain⟨X,hX⟩:∃X,be n 2=X:=⟨_,rfl⟩
 rw[hX] at PU hb2 ⊢
 obtain⟨T,hT⟩:∃T,qasq v p.kind p.props=T:=⟨_,rfl⟩
 rw[hT] at PR lt ⊢
 have HFS:=Lib.hid hp.fs
 have HCS:=Lib.hid hp.cs
 obtain⟨l,hl⟩:∃l,p.filters=l:=⟨_,rfl⟩
 obtain⟨m,hm⟩:∃m,p.codes=m:=⟨_,rfl⟩
 have s1:=sp.1
 have s2:=sp.2.1
 rw[hl] at FB fl K23 HFS s2 ⊢
 rw[hm] at hcr K22 HCS s1 ⊢
 obtain⟨nl,hnl⟩:∃n,l.length=n:=⟨_,rfl⟩
 obtain⟨nm,hnm⟩:∃n,m.length=n:=⟨_,rfl⟩
 rw[hnl] at K23 s2
 rw[hnm] at K22 s1
 have LB:∀k j:Nat,k≤nl→j≤nm→(X++T++(l.take k).flatMap (qjk5 p.kind)++q56c (m.take j)).length≤140000000000:=fun k j hk hj=>by
  have h1:=fl k
  rw[List.length_take] at h1
  have h3:(q56c (m.take j)).length≤j:=by unfold q56c;rw[List.length_map,List.length_take];exact Nat.min_le_left _ _
  simp only[List.length_append,hb2]
  have:min k l.length≤70000:=by omega
  omega
 replace LB:=Lib.hid LB
 replace VA:=Lib.hid VA
 replace PR:=Lib.hid PR
 replace FB:=Lib.hid FB
 replace PU:=Lib.hid PU
 replace K0:=Lib.hid K0
 replace K4:=Lib.hid K4
 replace K22:=Lib.hid K22
 replace K23:=Lib.hid K23
 replace hcr:=Lib.hid hcr
 have HN:=Lib.hid (show(n:Int) < 65536∧X.length=2∧T.length≤300000000 from⟨hn2,hb2,lt⟩)
 have HL:=Lib.hid (And.intro hnl hnm)
 have q0:(nl:Int)≤70000:=by omega
 have q1:(nm:Int)≤70000:=by omega
 clear hv ho hr hfE hcE h45 hk hu hi h4 lt hfv hkk fl hn hn2 hraw hb2 hX hT hl hm s1 s2 hnl hnm hp sp ok hc
 generalize p.kind=kind at *
 generalize a.fs=A at *
 generalize a.fc=fc at *
 generalize a.cs=C at *
 generalize a.cc=cc at *
 go_enter Tryz.func10,Tryz.ntmps10
 go_wp2_with (refine wpList_load_row rfl _ _ rfl w.heap.size rfl 29 _ (0,0) _ S0.out.box Tryz.underlying29 rfl (by rw[C1.out];exact q5nr) ?_)
 refine(VA.out _ S0.out).mono ?_
 rintro e W ⟨rfl,hb⟩
 have D1:=Lib.hid (show BdS w p a W.heap.size [] (W.alloc (.cells #[.pointer none,.slice none 0 0] 60)) from⟨hb.call ((Below.refl _ _).alloc (Nat.le_refl _) _),lt_of_block hb.box,SbAt.made W⟩)
 have k4:=K4.out _ D1.out.bx
 have hn2:=HN.out.1
 clear hb S0 VA
 go_wp2_with fail
 refine(PU.out _).mono ?_
 rintro e W2 ⟨rfl,hb⟩
 have D2:=Lib.hid (D1.out.call hb)
 clear hb D1 k4 hn2
 generalize W.heap.size=B at *
 go_wp2_with fail
 refine(q6cc B [] X W2 D2.out.sb (by have:=HN.out.2.1;simp;omega)).mono ?_
 rintro e W3 ⟨rfl,hs,hb⟩
 have D3:=Lib.hid (D2.out.wrote hb hs)
 clear hs hb D2
 go_wp2_with (refine wpList_load_row rfl _ _ rfl w.heap.size rfl 29 _ (0,0) _ D3.out.bx.box Tryz.underlying29 rfl (by rw[C1.out];exact q5nr) ?_)
 refine(PR.out _ D3.out.bx).mono ?_
 rintro e W4 ⟨rfl,hb⟩
 have D4:=Lib.hid (D3.out.call hb)
 clear hb D3
 go_wp2_with fail
 refine(q6cc B ([]++X) T W4 D4.out.sb (by have:=HN.out.2.1;have:=HN.out.2.2;simp;omega)).mono ?_
 rintro e W5 ⟨rfl,hs,hb⟩
 have D5:=Lib.hid (show BdS w p a B (X++T++(l.take 0).flatMap (qjk5 kind)++q56c (m.take 0)) W5 by
  have:=D4.out.wrote hb hs
  simpa [q56c] using this)
 have k23:=K23.out _ D5.out.bx
 clear hs hb D4
 go_wp2_with fail
 clear k23
 go_loopg [30] nl (fun gk s30 wx=>∃k:Nat,k≤nl∧gk=nl - k∧s30 = .int .i64 (k:Int)∧BdS w p a B (X++T++(l.take k).flatMap (qjk5 kind)++q56c (m.take 0)) wx)
 case atStart=>exact⟨0,Nat.zero_le _,rfl,rfl,D5.out⟩
 case round=>
  obtain⟨k,hk,rfl,rfl,hS⟩:=hrel
  have DK:=Lib.hid hS
  by_cases hlt:k < nl
  ·have hkl:k < l.length:=by rw[HL.out.1];exact hlt
   obtain⟨f,hp⟩:∃f,l[k]? = some f:=⟨_,List.getElem?_eq_getElem hkl⟩
   obtain⟨ga,ia,rfl,_,a0,a1,a2,a3,a4⟩:=(HFS.out.below hS.bx.low).fi hp
   have FI:=FB.out f (List.mem_of_getElem? hp)
   have hts:=qki5 hp
   have hacc:X++T++(l.take k).flatMap (qjk5 kind)++q56c (m.take 0)++qjk5 kind f=X++T++(l.take (k+1)).flatMap (qjk5 kind)++q56c (m.take 0):=by
    rw[hts];simp[q56c]
   have hbd:=LB.out (k+1) 0 (by omega) (Nat.zero_le _)
   rw[←hacc,List.length_append] at hbd
   have HA:=Lib.hid (And.intro hacc hbd)
   have L:=Lib.hid hlt
   have g1:(k:Int) < (nl:Int):=by omega
   unfold fiC at FI
   obtain⟨M,hM⟩:∃M,qjk5 kind f=M:=⟨_,rfl⟩
   rw[hM] at FI HA
   replace FI:=Lib.hid FI
   generalize bs f.topic=x0 at *
   generalize f.qos=x1 at *
   generalize f.noLocal=x2 at *
   generalize f.asPub=x3 at *
   generalize f.handling=x4 at *
   have H5:=Lib.hid (show #[Value.string x0,.int .i64 x1,.bool x2,.bool x3,.int .i64 x4].size=5 from rfl)
   have S1:=Lib.hid (DK.out.call ((Below.refl _ _).alloc (Nat.le_refl _) (.cells #[.string x0,.int .i64 x1,.bool x2,.bool x3,.int .i64 x4] 32)))
   have k0:=K0.out _ S1.out.bx
   have G2:=Lib.hid (heap_alloc_new wr (.cells #[.string x0,.int .i64 x1,.bool x2,.bool x3,.int .i64 x4] 32))
   clear hts hacc hbd hkl hp hS hlt hk hM
   go_wp2_with (refine wpList_load_row rfl _ _ rfl wr.heap.size rfl 32 _ (0,0) _ G2.out Tryz.underlying32 rfl (by rw[H5.out];exact qhg6) ?_)
   refine(FI.out _).mono ?_
   rintro e W6 ⟨rfl,hb⟩
   have S2:=Lib.hid (S1.out.call hb)
   clear hb k0
   go_wp2_with fail
   refine(q6cc B _ M W6 S2.out.sb (by have:=HA.out.2;omega)).mono ?_
   rintro e W7 ⟨rfl,hs,hb⟩
   have S3:=Lib.hid (show BdS w p a B (X++T++(l.take (k+1)).flatMap (qjk5 kind)++q56c (m.take 0)) W7 from HA.out.1▸S2.out.wrote hb hs)
   clear hs hb
   go_wp2_with fail
   go_roundg (nl - (k+1))
   case measure=>have:=L.out;omega
   case rel=>exact⟨k+1,by have:=L.out;omega,rfl,by go_num,S3.out⟩
  ·obtain rfl:k=nl:=by omega
   have k22:=K22.out _ hS.bx
   clear hS hlt hk D5
   go_wp2_with fail
   clear k22
   go_loopg [43] nm (fun gk s43 wx=>∃j:Nat,j≤nm∧gk=nm - j∧s43 = .int .i64 (j:Int)∧BdS w p a B (X++T++(l.take k).flatMap (qjk5 kind)++q56c (m.take j)) wx)
   case atStart=>exact⟨0,Nat.zero_le _,rfl,rfl,DK.out⟩
   case round=>
    obtain⟨j,hj,rfl,rfl,hS⟩:=hrel
    have DJ:=Lib.hid hS
    by_cases hlt:j < nm
    ·have hjl:j < m.length:=by rw[HL.out.2];exact hlt
     obtain⟨z,hp⟩:∃z,m[j]? = some z:=⟨_,List.getElem?_eq_getElem hjl⟩
     obtain⟨ga,ia,rfl,_,a0⟩:=(HCS.out.below hS.bx.low).int hp
     have hz:=hcr.out z (List.mem_of_getElem? hp)
     obtain⟨c,rfl⟩:=Int.eq_ofNat_of_zero_le hz.1
     have hts:=qki5 hp
     have hacc:X++T++(l.take k).flatMap (qjk5 kind)++q56c (m.take j)++[UInt8.ofNat c]=X++T++(l.take k).flatMap (qjk5 kind)++q56c (m.take (j+1)):=by
      rw[hts];simp[q56c]
     have hbd:=LB.out k (j+1) (Nat.le_refl _) (by omega)
     rw[←hacc,List.length_append] at hbd
     have HA:=Lib.hid (And.intro hacc hbd)
     have P1:=fun W=>qe3g c 1 W (by omega)
     have ho:be c ((min (1:Int) 16).toNat)=[UInt8.ofNat c]:=by show be c 1=_;exact qwu8 _
     rw[ho] at P1
     replace P1:=Lib.hid P1
     have L:=Lib.hid hlt
     have g1:(j:Int) < (nm:Int):=by omega
     have g2:(c:Int) < 65536:=by omega
     clear hts hacc hbd hjl hp hS hlt hj hz ho
     go_wp2_with fail
     refine(P1.out _).mono ?_
     rintro e W6 ⟨rfl,hb⟩
     have S2:=Lib.hid (DJ.out.call hb)
     clear hb g2
     go_wp2_with fail
     refine(q6cc B _ _ W6 S2.out.sb (by have:=HA.out.2;omega)).mono ?_
     rintro e W7 ⟨rfl,hs,hb⟩
     have S3:=Lib.hid (show BdS w p a B (X++T++(l.take k).flatMap (qjk5 kind)++q56c (m.take (j+1))) W7 from HA.out.1▸S2.out.wrote hb hs)
     clear hs hb
     go_wp2_with fail
     go_roundg (nm - (j+1))
     case measure=>have:=L.out;omega
     case rel=>exact⟨j+1,by have:=L.out;omega,rfl,by go_num,S3.out⟩
    ·obtain rfl:j=nm:=by omega
     have hfin:X++T++(l.take k).flatMap (qjk5 kind)++q56c (m.take j)=X++(T++(l.flatMap (qjk5 kind)++q56c m)):=by
      rw[List.take_of_length_le (by rw[HL.out.1];exact Nat.le_refl _),List.take_of_length_le (by rw[HL.out.2];exact Nat.le_refl _)]
      simp
     rw[hfin] at hS
     have D9:=Lib.hid hS
     clear hS hlt hj hfin
     go_wp2_with fail
     refine(q0vh B _ _ D9.out.sb).mono ?_
     rintro e W8 ⟨rfl,hb⟩
     have L9:=Lib.hid (D9.out.bx.low.trans (hb.mono (Nat.le_of_lt D9.out.lo)))
     clear hb
     go_wp2_with fail
     go_ret2
     exact⟨rfl,L9.out⟩
theorem q7zk(v:Int)(p:Pk)(a:Ad)(w:World)(hp:PkAt w p a)(sp:q21o p)(ok:PkOk p)(hc:p.props.length≤a.pc) :
 Calls Tryz.prog 10 #[.int .i64 v,.agg (pkC p a)] w fun e w'=>e = .returned (.tuple #[.string (bs (qktk v p).1),.int .i64 ((qktk v p).2:Nat)])∧Below w.heap.size w w':=by
 unfold qktk
 by_cases hv:q3m2 v p=0
 ·rw[if_neg (by simpa using hv)]
  exact qns4 v p a w hp sp ok hc hv
 ·rw[if_pos hv]
  exact q72b v p a w hp sp ok hc hv
def askS(i:Int)(l:List Fi):Pk:={Pk.zero with kind:=8,id:=i,filters:=l}
def adF(A:Option Addr)(c:Nat):Ad:={adZ with fs:=A,fc:=c}
theorem qdqr{i:Int}{l:List Fi}(h:∀f∈l,f.topic.length≤65535):PkOk (askS i l):=by
 refine⟨by show _≤(8:Int)∧(8:Int)≤_;decide,by show _≤(0:Int)∧(0:Int)≤_;decide,fun t ht=>?_,fun x hx=>(nomatch hx),fun x hx=>(nomatch hx),fun x hx=>Nat.le_trans (h x hx) (by decide)⟩
 have:t=[]:=by simpa [Pk.texts,Pk.zero,askS] using ht
 rw[this];decide
theorem q66c{W:World}{i:Int}{l:List Fi}{A:Option Addr}{c:Nat}(h:CL W A (fcs l)):PkAt W (askS i l) (adF A c):=⟨fun e=>absurd rfl e,fun e=>absurd rfl e,h,fun e=>absurd rfl e⟩
def oneF:Fi:=⟨[97,47,35],2,false,false,0⟩
def qucf:Pk:=askS 1 [oneF]
theorem q4n7:qktk 4 qucf=([0,1,0,3,97,47,35,2],0):=by decide+kernel
theorem q43p(w:World):Calls Tryz.prog 9 #[] w fun e w'=>∃g,e = .returned (.agg (pkC qucf (adF (some ⟨g,0,none⟩) 1)))∧CL w' (some ⟨g,0,none⟩) (fcs [oneF])∧w.heap.size < g∧g < w'.heap.size∧Below w.heap.size w w':=by
 have hzv:=qrai
 have hne:¬pkZ=#[]:=by intro h;have:=qbwp;rw[h] at this;cases this
 have HZ:=Lib.hid qbwp
 go_enter Tryz.func9,Tryz.ntmps9
 have H1:=Lib.hid (qwmp qucf (adF (some ⟨w.heap.size+1,0,none⟩) 1))
 have H2:=Lib.hid (qmz0 qucf (adF (some ⟨w.heap.size+1,0,none⟩) 1))
 go_wp2_with (first
  | (refine wpList_buildTo rfl 29 _ rfl (some _) rfl (pkC qucf (adF (some ⟨w.heap.size+1,0,none⟩) 1)) (by kernel_rfl) ?_)
  | (refine wpList_store_row rfl _ _ _ rfl w.heap.size (pkC qucf (adF (some ⟨w.heap.size+1,0,none⟩) 1)) rfl rfl 29 _ (heap_alloc2_old _ _ _) (by rw[H1.out];exact q5nr) (by rw[HZ.out,H1.out]) H2.out ?_))
 refine q7wi rfl rfl rfl Tryz.underlying29 rfl (by rw[H1.out];exact q5nr) (setRow_heap _ _ _ _ _ _ (heap_alloc2_old _ _ _)) ⟨w.heap.size+1,rfl,?_,Nat.lt_succ_self _,by simp[World.setRow],q8xz (qxh2 (qybm _) (qybm _)) (Nat.le_refl _) _⟩
 exact CL.of_cells ((setRow_other _ _ _ _ (by omega)).trans (heap_alloc2_new _ _ _)) (fun j u hu=>by
  rw[←hu,←Array.getElem?_toList]
  rfl)
theorem qwd9:PkOk qucf:=qdqr (fun f hf=>by simp at hf;subst hf;decide)
theorem qppj:q21o qucf:=⟨Nat.zero_le _,by decide,Nat.zero_le _,Nat.zero_le _⟩
theorem qv1l(w:World):Calls Tryz.prog 8 #[] w fun e w'=>e = .returned (.bool true)∧Below w.heap.size w w':=by
 have BO:=fun g W (h:CL W (some ⟨g,0,none⟩) (fcs [oneF]))=>q7zk 4 qucf (adF (some ⟨g,0,none⟩) 1) W (q66c h) qppj qwd9 (Nat.zero_le _)
 rw[q4n7] at BO
 have ON:=Lib.hid (q43p w)
 generalize qucf=P at *
 replace BO:=Lib.hid BO
 go_enter Tryz.func8,Tryz.ntmps8
 go_wp2_with fail
 refine(ON.out).mono ?_
 rintro e W ⟨g,rfl,hc,_,_,hb⟩
 have L1:=Lib.hid hb
 have C1:=Lib.hid hc
 clear hb hc
 go_wp2_with fail
 refine(BO.out g _ C1.out).mono ?_
 rintro e W2 ⟨rfl,hb⟩
 have L2:=Lib.hid (qxh2 L1.out hb)
 clear hb
 have h1:((bs [0,1,0,3,97,47,35,2]).toList==[0,1,0,3,97,47,35,2])=true:=by rw[q0c6];decide
 go_wp2_with fail
 go_ret
 exact⟨rfl,L2.out⟩
end Go.Proofs.YtbecggefmbpnoaaGreatDoor
