/- The chapter's example of layer 11: polyglotlaw11.one, lives; a packet of one filter. No condition. -/
import Derived.Deep.DeepCutAuto
import Derived.Test.YtbecggefmbpnoaaGreatDoorK48
import Derived.Test.YtbecggefmbpnoaaGreatDoorK27
import Derived.Test.YtbecggefmbpnoaaGreatDoorK13
import Derived.Test.YtbecggefmbpnoaaGreatDoorK30
import Derived.Test.YtbecggefmbpnoaaGreatDoorK37
import Derived.Test.YtbecggefmbpnoaaGreatDoorK46
set_option maxRecDepth 100000
set_option maxHeartbeats 4000000
namespace Go.Proofs.YtbecggefmbpnoaaGreatDoor
open Go.RowKit
def askS(i:Int)(l:List Fi):Pk:={Pk.zero with kind:=8,id:=i,filters:=l}
def adF(A:Option Addr)(c:Nat):Ad:={adZ with fs:=A,fc:=c}
theorem qdqr{i:Int}{l:List Fi}(h:∀f∈l,f.topic.length≤65535):PkOk (askS i l):=by
 refine⟨by show _≤(8:Int)∧(8:Int)≤_;decide,by show _≤(0:Int)∧(0:Int)≤_;decide,fun t ht=>?_,fun x hx=>(nomatch hx),fun x hx=>(nomatch hx),fun x hx=>Nat.le_trans (h x hx) (by decide)⟩
 have:t=[]:=by simpa [Pk.texts,Pk.zero,askS] using ht
 rw[this];decide
theorem q66c{W:World}{i:Int}{l:List Fi}{A:Option Addr}{c:Nat}(h:CL W A (fcs l)):PkAt W (askS i l) (adF A c):=⟨fun e=>absurd rfl e,fun e=>absurd rfl e,h,fun e=>absurd rfl e⟩
def oneF:Fi:=⟨[97,47,35],2,false,false,0⟩
def qucf:Pk:=askS 1 [oneF]
theorem q4n7:qktk 4 qucf=([0,1,0,3,97,47,35,2],0):=by decide+kernel
theorem q43p(w:World):Calls Tryz.prog 9 #[] w fun e w'=>∃g,e = .returned (.agg (pkC qucf (adF (some ⟨g,0,none⟩) 1)))∧CL w' (some ⟨g,0,none⟩) (fcs [oneF])∧w.heap.size < g∧g < w'.heap.size∧Below w.heap.size w w':=by
 have hzv:=qrai
 have hne:¬pkZ=#[]:=by intro h;have:=qbwp;rw[h] at this;cases this
 have HZ:=Lib.hid qbwp
 go_enter Tryz.func9,Tryz.ntmps9
 have H1:=Lib.hid (qwmp qucf (adF (some ⟨w.heap.size+1,0,none⟩) 1))
 have H2:=Lib.hid (qmz0 qucf (adF (some ⟨w.heap.size+1,0,none⟩) 1))
 go_wp2_with (first
  | (refine wpList_buildTo rfl 29 _ rfl (some _) rfl (pkC qucf (adF (some ⟨w.heap.size+1,0,none⟩) 1)) (by kernel_rfl) ?_)
  | (refine wpList_store_row rfl _ _ _ rfl w.heap.size (pkC qucf (adF (some ⟨w.heap.size+1,0,none⟩) 1)) rfl rfl 29 _ (heap_alloc2_old _ _ _) (by rw[H1.out];exact q5nr) (by rw[HZ.out,H1.out]) H2.out ?_))
 refine q7wi rfl rfl rfl Tryz.underlying29 rfl (by rw[H1.out];exact q5nr) (setRow_heap _ _ _ _ _ _ (heap_alloc2_old _ _ _)) ⟨w.heap.size+1,rfl,?_,Nat.lt_succ_self _,by simp[World.setRow],q8xz (qxh2 (qybm _) (qybm _)) (Nat.le_refl _) _⟩
 exact CL.of_cells ((setRow_other _ _ _ _ (by omega)).trans (heap_alloc2_new _ _ _)) (fun j u hu=>by
  rw[←hu,←Array.getElem?_toList]
  rfl)
theorem qwd9:PkOk qucf:=qdqr (fun f hf=>by simp at hf;subst hf;decide)
theorem qppj:q21o qucf:=⟨Nat.zero_le _,by decide,Nat.zero_le _,Nat.zero_le _⟩
theorem qv1l(w:World):Calls Tryz.prog 8 #[] w fun e w'=>e = .returned (.bool true)∧Below w.heap.size w w':=by
 have BO:=fun g W (h:CL W (some ⟨g,0,none⟩) (fcs [oneF]))=>q7zk 4 qucf (adF (some ⟨g,0,none⟩) 1) W (q66c h) qppj qwd9 (Nat.zero_le _)
 rw[q4n7] at BO
 have ON:=Lib.hid (q43p w)
 generalize qucf=P at *
 replace BO:=Lib.hid BO
 go_enter Tryz.func8,Tryz.ntmps8
 go_wp2_with fail
 refine(ON.out).mono ?_
 rintro e W ⟨g,rfl,hc,_,_,hb⟩
 have L1:=Lib.hid hb
 have C1:=Lib.hid hc
 clear hb hc
 go_wp2_with fail
 refine(BO.out g _ C1.out).mono ?_
 rintro e W2 ⟨rfl,hb⟩
 have L2:=Lib.hid (qxh2 L1.out hb)
 clear hb
 have h1:((bs [0,1,0,3,97,47,35,2]).toList==[0,1,0,3,97,47,35,2])=true:=by rw[q0c6];decide
 go_wp2_with fail
 go_ret
 exact⟨rfl,L2.out⟩
theorem qp9r{v:Int}{p:Pk}(h:q3m2 v p=0)(hs:q21o p):(rawS v p).length≤140000000000:=by
 obtain⟨h0,hr,hf,hc⟩:=q87v h
 have h1:=qp2i hr
 have h2:=q12b (kind:=p.kind) (l:=p.filters) (fun f hm=>qme0 (q267 hf f hm).1)
 have h3:=hs.2.1
 have h4:=hs.1
 unfold rawS q56c
 simp only[List.length_append,q0rl,List.length_map]
 omega
theorem qw59(v:Int):∃u:Int,(u=4∨u=5)∧∀w:World,Calls Tryz.prog 25 #[.int .i64 v] w fun e w'=>e = .returned (.int .i64 u)∧w=w':=by
 by_cases h:v.tmod 2=0
 ·refine⟨4,.inl rfl,fun w=>?_⟩
  have h1:(v.tmod 2==0)=true:=by simpa using h
  go_enter Tryz.func25,Tryz.ntmps25
  go_wp2
  go_ret
  exact⟨rfl,rfl⟩
 ·refine⟨5,.inr rfl,fun w=>?_⟩
  have h1:(v.tmod 2==0)=false:=by simpa using h
  have h2:(v.tmod 2 != 0)=true:=by simpa using h
  go_enter Tryz.func25,Tryz.ntmps25
  go_wp2
  go_ret
  exact⟨rfl,rfl⟩
theorem q95w{v kind:Int}(h:kind=8∨kind=9∨kind=10∨kind=11):qfk9 v kind []=0:=by
 unfold qfk9
 split
 ·obtain rfl | rfl | rfl | rfl:=h<;>decide+kernel
 ·rfl
theorem qjoc{u i:Int}(hu:u=4∨u=5)(hi:1≤i∧i≤65535){l:List Fi}(hl:l≠[]):okS u (askS i l)=true:=by
 obtain⟨f,l,rfl⟩:=List.exists_cons_of_ne_nil hl
 have h1:decide (1≤i)=true:=decide_eq_true hi.1
 have h2:decide (i≤65535)=true:=decide_eq_true hi.2
 have h3:askS i (f::l)=qumw u (askS i (f::l)):=by
  unfold qumw askS
  obtain rfl | rfl:=hu<;>rfl
 have h4:=decide_eq_true h3
 unfold okS
 rw[h4]
 show(versC u&&qfws 8&&true&&(decide (1≤i)&&decide (i≤65535))&&!(u==4&&!([]:List Pr).isEmpty)&&!((f::l).isEmpty&&([]:List Int).isEmpty&&!((8:Int)==11&&u==4)))=true
 rw[h1,h2]
 obtain rfl | rfl:=hu<;>rfl
theorem q19e{u i:Int}(hu:u=4∨u=5)(hi:1≤i∧i≤65535){l:List Fi}(hl:l≠[]):q3m2 u (askS i l)=qlck u 8 l:=by
 unfold q3m2
 rw[qjoc hu hi hl,if_neg (by decide)]
 have h1:qfk9 u (askS i l).kind (askS i l).props=0:=q95w (v:=u) (kind:=8) (.inl rfl)
 rw[h1,if_neg (by decide)]
 show(if qlck u 8 l≠0 then qlck u 8 l else 0)=_
 split
 ·rfl
 ·omega
theorem qsls{u:Int}(hu:u=4∨u=5){f:Fi}(h:qw8n f.topic=true):q3m2 u (askS 9 [f])=if optS u 8 f=true then 0 else 2:=by
 rw[q19e hu (by decide) (by simp)]
 unfold qlck
 rw[if_neg (by rw[h];decide)]
 cases optS u 8 f<;>rfl
theorem q3bc(f:Fi):optS 5 8 f=(decide (0≤f.qos)&&decide (f.qos≤2)&&decide (0≤f.handling)&&decide (f.handling≤2)&&!(f.noLocal&&(qar3 f.topic).2.2)):=by
 unfold optS
 rw[if_neg (by decide),if_neg (by decide),Bool.not_and,←Bool.and_assoc (decide (0≤f.qos)&&decide (f.qos≤2))]
theorem qhuv(f:Fi):optS 4 8 f=(decide (0≤f.qos)&&decide (f.qos≤2)&&decide (f=(⟨f.topic,f.qos,false,false,0⟩:Fi))):=by
 unfold optS
 rw[if_neg (by decide),if_pos rfl,Bool.eq_iff_iff]
 obtain⟨t,q,n,a,h⟩:=f
 simp only[Bool.and_eq_true,decide_eq_true_eq,Bool.not_eq_true',beq_iff_eq,Fi.mk.injEq,true_and]
 constructor
 ·rintro⟨⟨h1,_⟩,⟨h3,h4⟩,h5⟩
  exact⟨h1,h3,h4,h5⟩
 ·rintro⟨h1,h3,h4,h5⟩
  exact⟨⟨h1,by omega⟩,⟨h3,h4⟩,h5⟩
theorem qerv(u i:Int)(f:Fi):∃pre,rawS u (askS i [f])=pre++[UInt8.ofNat (qang f)]:=
 ⟨be i.toNat 2++(qasq u 8 []++enc2 f.topic),by simp[rawS,askS,qjk5,q56c,Pk.zero]⟩
theorem q0c1(f:Fi):(UInt8.ofNat (qang f)).toNat=qang f:=by
 have:=qiwy f
 rw[UInt8.toNat_ofNat'];omega
theorem qu12{s:ByteArray}(r:List UInt8)(h:s.data.toList=share++47::r):7≤s.size∧((s.extract 0 7).toList==[36,115,104,97,114,101,47])=true:=by
 have hl:=congrArg List.length h
 rw[←q4ad,List.length_append,List.length_cons] at hl
 have h6:share.length=6:=rfl
 refine⟨by omega,?_⟩
 have e:=q31q s 0 7
 rw[Nat.zero_add,List.drop_zero,h] at e
 rw[e,q0c6]
 simp[share]
theorem qvd3{s:ByteArray}(h:¬∃r,s.data.toList=share++47::r):((s.extract 0 7).toList==[36,115,104,97,114,101,47])=false:=by
 rw[Bool.eq_false_iff]
 intro e
 apply h
 have e2:=q31q s 0 7
 rw[Nat.zero_add,List.drop_zero] at e2
 rw[e2,q0c6,beq_iff_eq] at e
 refine⟨s.data.toList.drop 7,?_⟩
 conv=>lhs;rw[←List.take_append_drop 7 s.data.toList,e]
 rfl
theorem qh7y{r g f:List UInt8}{ls:List (List UInt8)}(hv:qecx (share++47::r)=true)(h:lvls r=g::f::ls) :
 qar3 (share++47::r)=if g≠[]∧(43:UInt8)∉g∧(35:UInt8)∉g∧qw8n (q8nq (f::ls))=true then(g,q8nq (f::ls),true) else([],[],false):=by
 unfold qar3
 rw[quk3 qt0s,h]
 simp only[hv,true_and]
theorem q4xc{r g:List UInt8}(h:lvls r=[g]):qar3 (share++47::r)=([],[],false):=by
 unfold qar3
 rw[quk3 qt0s,h]
theorem qyzh(s:ByteArray)(w:World)(h:qecx s.data.toList=false∨¬∃r,s.data.toList=share++47::r) :
 Calls Tryz.prog 26 #[.string s] w fun e w'=>e = .returned (shv ([],[],false))∧w=w':=by
 have VA:=Lib.hid (qcip s w)
 rw[qphx]
 cases hv:qecx s.data.toList with
 | false=>
  rw[hv] at VA
  clear h hv
  go_enter Tryz.func26,Tryz.ntmps26
  go_wp2_with (go_at_call 71;with_reducible refine(VA.out).mono ?_;rintro e w1 ⟨rfl,rfl⟩)
  go_ret3
  exact⟨rfl,rfl⟩
 | true=>
  rw[hv] at VA
  have hn:¬∃r,s.data.toList=share++47::r:=by
   rcases h with h | h
   ·rw[hv] at h;cases h
   ·exact h
  by_cases h7:7≤s.size
  ·have e7:=qvd3 hn
   have g7:(7:Int)≤(s.size:Int):=by omega
   have g8:decide ((s.size:Int) < 7)=false:=decide_eq_false (by omega)
   clear h hv hn
   go_enter Tryz.func26,Tryz.ntmps26
   go_wp2_with (go_at_call 71;with_reducible refine(VA.out).mono ?_;rintro e w1 ⟨rfl,rfl⟩)
   go_ret3
   exact⟨rfl,rfl⟩
  ·have g8:decide ((s.size:Int) < 7)=true:=decide_eq_true (by omega)
   have g9:(s.size:Int) < 7:=by omega
   clear h hv hn h7
   go_enter Tryz.func26,Tryz.ntmps26
   go_wp2_with (go_at_call 71;with_reducible refine(VA.out).mono ?_;rintro e w1 ⟨rfl,rfl⟩)
   go_ret3
   exact⟨rfl,rfl⟩
theorem qiwg(r:List UInt8){g f:List UInt8}{ls:List (List UInt8)}(h:lvls r=g::f::ls):(q8nq (f::ls)).length≤r.length∧g.length≤r.length:=by
 have:=congrArg List.length (qz8l r)
 rw[h,qcnz g (by simp),List.length_append,List.length_cons] at this
 omega
theorem q3fa(s:ByteArray)(r:List UInt8)(w:World)(hs:s.size≤200000)(hv:qecx s.data.toList=true)(h:s.data.toList=share++47::r) :
 Calls Tryz.prog 26 #[.string s] w fun e w'=>e = .returned (shv (qar3 s.data.toList))∧Below w.heap.size w w':=by
 have VA:=qcip s w
 rw[hv] at VA
 replace VA:=Lib.hid VA
 obtain⟨h7,e7⟩:=qu12 r h
 have g7:(7:Int)≤(s.size:Int):=by omega
 have g8:decide ((s.size:Int) < 7)=false:=decide_eq_false (by omega)
 have LV:=quc1 s w hs
 have hl0:lvls s.data.toList=share::lvls r:=by rw[h,quk3 qt0s]
 rw[hl0] at LV
 have hrl:r.length≤s.size:=by
  have:=congrArg List.length h
  rw[←q4ad,List.length_append,List.length_cons] at this;omega
 have hvr:qecx (share++47::r)=true:=by rw[←h];exact hv
 rw[h]
 clear h hl0 hv h7
 obtain⟨g,tl,hg⟩:=List.exists_cons_of_ne_nil (q6q5 r)
 cases tl with
 | nil=>
  rw[q4xc hg,qphx]
  rw[hg] at LV
  replace LV:=Lib.hid LV
  clear hg hrl hvr hs
  go_enter Tryz.func26,Tryz.ntmps26
  go_wp2_with (go_at_call 71;with_reducible refine(VA.out).mono ?_;rintro e w1 ⟨rfl,rfl⟩)
  refine(LV.out).mono ?_
  rintro e W1 ⟨v,rfl,hown,hb⟩
  obtain⟨A,c,rfl,-,-,-⟩:=CL.owned hown hown.1
  have LO:=Lib.hid hb
  clear hown hb
  have hlen:([share,g]:List (List UInt8)).length=2:=rfl
  rw[hlen]
  go_wp2_with fail
  go_ret3
  exact⟨rfl,LO.out⟩
 | cons f ls=>
  rw[qh7y hvr hg]
  rw[hg] at LV
  obtain⟨hjl,hgl⟩:=qiwg r hg
  have H43:=fun W=>qwdg (bs g) 43 W (by rw[q5zk];omega)
  have H35:=fun W=>qwdg (bs g) 35 W (by rw[q5zk];omega)
  rw[qkd1] at H43 H35
  have FI:=fun W=>q2e6 (bs (q8nq (f::ls))) W (by rw[q5zk];omega)
  rw[qkd1] at FI
  have JN:=fun A n c W (h:SR W A (f::ls)) (hn:(f::ls).length=n) (hN:n≤200000)=>qylw A n c (f::ls) W h hn hN (by omega)
  have hcount:(lvls r).length≤r.length+1:=by
   rw[qspi]
   have:=List.count_le_length (a:=(47:UInt8)) (l:=r)
   omega
  rw[hg] at hcount
  have eg:((bs g).toList==[])=decide (g=[]):=by rw[q0c6,Bool.eq_iff_iff];simp
  have eg2:(bs g).toList.isEmpty=decide (g=[]):=by rw[q0c6,Bool.eq_iff_iff];simp
  obtain⟨m,hm⟩:∃m,ls.length=m:=⟨_,rfl⟩
  have hm3:m+1≤200000:=by simp only[List.length_cons] at hcount;omega
  have hm2:(m:Int)≤200000:=by omega
  have HM3:=Lib.hid hm3
  clear hm3
  have hcell1:([share,g,f]++ls).getD 1 []=g:=rfl
  obtain⟨R,hR⟩:∃R,(if g≠[]∧(43:UInt8)∉g∧(35:UInt8)∉g∧qw8n (q8nq (f::ls))=true then(g,q8nq (f::ls),true) else([],[],false))=R:=⟨_,rfl⟩
  rw[hR]
  have HR:Hid ((if decide (g=[])=false∧decide ((43:UInt8)∈g)=false∧decide ((35:UInt8)∈g)=false∧qw8n (q8nq (f::ls))=true then(g,q8nq (f::ls),true) else([],[],false))=R):=Lib.hid (by
   rw[←hR];simp only[decide_eq_false_iff_not,ne_eq])
  generalize decide (g=[])=b0 at *
  generalize decide ((43:UInt8)∈g)=b43 at *
  generalize decide ((35:UInt8)∈g)=b35 at *
  generalize qw8n (q8nq (f::ls))=bf at *
  replace H43:=Lib.hid (show ∀W,Calls Tryz.prog 73 #[.string (bs g),.int .u8 43] W fun e w'=>e = .returned (.bool b43)∧W=w' from H43)
  replace H35:=Lib.hid (show ∀W,Calls Tryz.prog 73 #[.string (bs g),.int .u8 35] W fun e w'=>e = .returned (.bool b35)∧W=w' from H35)
  replace LV:=Lib.hid LV
  replace FI:=Lib.hid FI
  replace JN:=Lib.hid JN
  have HM:=Lib.hid hm
  clear hvr hg hjl hgl hcount hs hrl hR hcell1 hm
  go_enter Tryz.func26,Tryz.ntmps26
  go_wp2_with (go_at_call 71;with_reducible refine(VA.out).mono ?_;rintro e w1 ⟨rfl,rfl⟩)
  refine(LV.out).mono ?_
  rintro e W1 ⟨v,rfl,hown,hb⟩
  obtain⟨A,c,rfl,hcap,hC,-⟩:=CL.owned hown hown.1
  have hsr:=qrpr hC
  obtain⟨gb,i,rfl,hlt,hcell⟩:=hsr (by simp)
  have LO:=Lib.hid hb
  have hc1:W1.cell? ⟨gb,i+1,none⟩=some (.string (bs g)):=hcell 1 (by simp)
  have SR2:=Lib.hid (show SR W1 (some ⟨gb,i+2,none⟩) (f::ls) from fun _=>⟨gb,i+2,rfl,hlt,fun j hj=>by
   have:=hcell (j+2) (by simp at hj ⊢;omega)
   rw[show i+(j+2)=i+2+j by omega] at this
   exact this⟩)
  have hlen:(share::g::f::ls).length=m+3:=by simp only[List.length_cons,HM.out]
  rw[hlen] at hcap ⊢
  have hcap2:((m+3:Nat):Int)≤(c:Int):=by omega
  have HLT:=Lib.hid hlt
  clear hown hb hC hsr hcell hlt hcap hlen
  have hnr:R=(g,q8nq (f::ls),true)∨True := .inr trivial
  cases b0 with
  | true=>
   have e:R=([],[],false):=by rw[←HR.out];simp
   subst e
   go_wp2_with fail
   go_ret3
   exact⟨rfl,LO.out⟩
  | false=>
   cases b43 with
   | true=>
    have e:R=([],[],false):=by rw[←HR.out];simp
    subst e
    go_wp2_with (go_at_call 73;with_reducible refine(H43.out _).mono ?_;rintro e w9 ⟨rfl,rfl⟩)
    go_ret3
    exact⟨rfl,LO.out⟩
   | false=>
    cases b35 with
    | true=>
     have e:R=([],[],false):=by rw[←HR.out];simp
     subst e
     go_wp2_with (first
      | (go_at_call 73;with_reducible refine(H43.out _).mono ?_;rintro e w9 ⟨rfl,rfl⟩)
      | (go_at_call 73;with_reducible refine(H35.out _).mono ?_;rintro e w9 ⟨rfl,rfl⟩))
     go_ret3
     exact⟨rfl,LO.out⟩
    | false=>
     go_wp2_with (first
      | (go_at_call 73;with_reducible refine(H43.out _).mono ?_;rintro e w9 ⟨rfl,rfl⟩)
      | (go_at_call 73;with_reducible refine(H35.out _).mono ?_;rintro e w9 ⟨rfl,rfl⟩))
     refine(JN.out _ (m+1) _ _ SR2.out (by simp only[List.length_cons,HM.out]) HM3.out).mono ?_
     rintro e w9 ⟨rfl,rfl⟩
     go_wp2_with fail
     refine(FI.out _).mono ?_
     rintro e w10 ⟨rfl,hb⟩
     have L2:=Lib.hid (qxh2 LO.out hb)
     have hc2:=(World.cell?_of_block (a:=⟨gb,i+1,none⟩) (hb.block gb HLT.out)).trans hc1
     clear hb
     cases bf with
     | true=>
      have e:R=(g,q8nq (f::ls),true):=by rw[←HR.out];simp
      subst e
      go_wp2_with fail
      go_ret3
      exact⟨rfl,L2.out⟩
     | false=>
      have e:R=([],[],false):=by rw[←HR.out];simp
      subst e
      go_wp2_with fail
      go_ret3
      exact⟨rfl,L2.out⟩
theorem q466(s:ByteArray)(w:World)(hs:s.size≤200000) :
 Calls Tryz.prog 26 #[.string s] w fun e w'=>e = .returned (shv (qar3 s.data.toList))∧Below w.heap.size w w':=by
 cases hv:qecx s.data.toList with
 | false=>
  rw[qn62 hv]
  exact(qyzh s w (.inl hv)).mono fun e w' ⟨he,hw⟩=>⟨he,hw▸Below.refl _ _⟩
 | true=>
  by_cases h:∃r,s.data.toList=share++47::r
  ·obtain⟨r,hr⟩:=h
   exact q3fa s r w hs hv hr
  ·rw[q1b7 h]
   exact(qyzh s w (.inr h)).mono fun e w' ⟨he,hw⟩=>⟨he,hw▸Below.refl _ _⟩
end Go.Proofs.YtbecggefmbpnoaaGreatDoor
