/- The contract of polyglotref11.Valid. Condition: at most 1,010 properties, with strings of up to 200,000 bytes, within their capacity; topics of up to 200,000 bytes; at most 70,000 elements a list. -/
import Derived.Deep.LoopGhost
import Derived.Maps.AppendAt
import Derived.Deep.CutBlock
import Derived.Deep.DeepCutAuto
import Derived.Test.YtbecggefmbpnoaaGreatDoorK48
import Derived.Test.YtbecggefmbpnoaaGreatDoorK21
import Derived.Test.YtbecggefmbpnoaaGreatDoorK14
import Derived.Test.YtbecggefmbpnoaaGreatDoorK20
import Derived.Test.YtbecggefmbpnoaaGreatDoorK51
import Derived.Test.YtbecggefmbpnoaaGreatDoorK46
import Derived.Test.YtbecggefmbpnoaaGreatDoorK41
import Derived.Test.YtbecggefmbpnoaaGreatDoorK24
import Derived.Test.YtbecggefmbpnoaaGreatDoorK43
import Derived.Test.YtbecggefmbpnoaaGreatDoorK47
import Derived.Test.YtbecggefmbpnoaaGreatDoorK45
import Derived.Test.YtbecggefmbpnoaaGreatDoorK18
import Derived.Test.YtbecggefmbpnoaaGreatDoorK40
import Derived.Test.YtbecggefmbpnoaaGreatDoorK17
import Derived.Test.YtbecggefmbpnoaaGreatDoorK34
set_option maxRecDepth 100000
set_option maxHeartbeats 8000000
namespace Go.Proofs.YtbecggefmbpnoaaGreatDoor
open Go.RowKit
structure RqP(p:Pk)(a:Ad):Prop where
 few:p.props.length≤1010
 cap:p.props.length≤a.pc
 capm:a.pc≤9223372036854775807
 small:∀x∈p.props,x.text.length≤200000
 tops:∀f∈p.filters,f.topic.length≤200000
theorem RqP.ps{p:Pk}{a:Ad}(h:RqP p a)(w:World)(hp:PkAt w p a):FewP w a.ps p.props.length a.pc p.props:=⟨hp.ps,rfl,h.cap,h.capm,h.few,h.small⟩
theorem qz99(v:Int)(p:Pk):(!versC v || !qfws p.kind || !decide (p=qumw v p) || decide (p.id < 1) || decide (65535 < p.id) || ((v==4)&&decide (0 < p.props.length)))=!(versC v&&qfws p.kind&&decide (p=qumw v p)&&(decide (1≤p.id)&&decide (p.id≤65535))&&!(v==4&&!p.props.isEmpty)):=by
 have h1:decide (p.id < 1)=!decide (1≤p.id):=by rw[←decide_not,decide_eq_decide];omega
 have h2:decide (65535 < p.id)=!decide (p.id≤65535):=by rw[←decide_not,decide_eq_decide];omega
 have h3:decide (0 < p.props.length)=!p.props.isEmpty:=by cases p.props<;>simp
 rw[h1,h2,h3]
 generalize decide (p=qumw v p)=a
 generalize decide (1≤p.id)=b
 generalize decide (p.id≤65535)=c
 generalize (!p.props.isEmpty)=d
 generalize (v==4)=e
 cases versC v<;>cases qfws p.kind<;>cases a<;>cases b<;>cases c<;>cases d<;>cases e<;>rfl
theorem qww0(v:Int)(p:Pk):okS v p=((versC v&&qfws p.kind&&decide (p=qumw v p)&&(decide (1≤p.id)&&decide (p.id≤65535))&&!(v==4&&!p.props.isEmpty))&&!((p.filters.length+p.codes.length==0)&&!((p.kind==11)&&(v==4)))):=by
 unfold okS
 have h:(p.filters.length+p.codes.length==0)=(p.filters.isEmpty&&p.codes.isEmpty):=by
  cases p.filters<;>cases p.codes<;>simp
 rw[h]
theorem q0yf(v:Int)(p:Pk)(a:Ad)(w:World)(hp:PkAt w p a)(sp:q21o p)(fp:RqP p a):Calls Tryz.prog 21 #[.int .i64 v,.agg (pkC p a)] w fun e w'=>e = .returned (.int .i64 (q3m2 v p:Nat))∧Below w.heap.size w w':=by
 have S0:=Lib.hid (BxS.made w p a)
 have C1:=Lib.hid (qwmp p a)
 have VE:=Lib.hid (fun W (h:BxS w p a W)=>(qyet v W).mono fun e W' (hh:_∧W=W')=>(⟨hh.1,hh.2▸h⟩:_∧BxS w p a W'))
 have KI:=Lib.hid (fun W (h:BxS w p a W)=>(qs10 p.kind W).mono fun e W' (hh:_∧W=W')=>(⟨hh.1,hh.2▸h⟩:_∧BxS w p a W'))
 have US:=Lib.hid (fun W (h:BxS w p a W)=>(q8vx v p a W).mono fun e W' hh=>(⟨hh.1,h.call hh.2⟩:_∧BxS w p a W'))
 have SM:=fun W (h:BxS w p a W)=>(qkl7 p (qumw v p) a (q2g9 v p.kind a) W (hp.below h.low) (q9lh v (hp.below h.low)) sp (qjed v sp)).mono fun e W' hh=>(⟨hh.1,h.call hh.2⟩:_∧BxS w p a W')
 unfold pkV at SM
 replace SM:=Lib.hid SM
 have BD:=Lib.hid (qz99 v p)
 have OKP:=qww0 v p
 obtain⟨g1,hg1⟩:∃b,(versC v&&qfws p.kind&&decide (p=qumw v p)&&(decide (1≤p.id)&&decide (p.id≤65535))&&!(v==4&&!p.props.isEmpty))=b:=⟨_,rfl⟩
 obtain⟨g2,hg2⟩:∃b,((p.filters.length+p.codes.length==0)&&!((p.kind==11)&&(v==4)))=b:=⟨_,rfl⟩
 rw[hg1,hg2] at OKP
 replace BD:=Lib.hid (BD.out.trans (congrArg _ hg1))
 have HG2:=Lib.hid hg2
 have VA:g1=true→∀W,BxS w p a W→Calls Tryz.prog 68 #[.int .i64 v,.int .i64 p.kind,.slice a.ps p.props.length a.pc] W fun e w'=>e = .returned (.int .i64 (qfk9 v p.kind p.props:Nat))∧Below W.heap.size W w':=fun h W hW=>by
  rw[h] at hg1
  simp only[Bool.and_eq_true,Bool.not_eq_true',versC,Bool.or_eq_true,beq_iff_eq] at hg1
  refine q0km v p.kind a.ps p.props.length a.pc p.props W (fp.ps W (hp.below hW.low)) hg1.1.1.1.1 (fun e=>?_)
  have h4:=hg1.2
  rw[e] at h4
  simpa using h4
 have hlen:IntKind.i64.wrap ((p.filters.length:Int)+(p.codes.length:Int))=((p.filters.length+p.codes.length:Nat):Int):=by
  rw[IntKind.wrap_i64];have:=sp.1;have:=sp.2.1;omega
 have HLEN:=Lib.hid hlen
 have HF:=Lib.hid (fun W (h:BxS w p a W)=>(hp.below h.low).fs)
 have HC:=Lib.hid (fun W (h:BxS w p a W)=>(hp.below h.low).cs)
 have TP:=Lib.hid fp.tops
 have SP:=Lib.hid (And.intro sp.1 sp.2.1)
 obtain⟨R,hR⟩:∃R,q3m2 v p=R:=⟨_,rfl⟩
 rw[hR]
 unfold q3m2 at hR
 rw[OKP] at hR
 replace VA:=Lib.hid VA
 have HR:=Lib.hid hR
 clear hp sp fp hg1 hg2 OKP hlen hR
 go_enter Tryz.func21,Tryz.ntmps21
 go_upto_region 1 with fail
 refine q9oy (S:=BxS w p a) (B:=w.heap.size) (k:=p.kind) (i:=p.id) (np:=p.props.length) (C:=pkC p a) (D:=pkC (qumw v p) (q2g9 v p.kind a)) (s:=decide (p=qumw v p)) S0.out.draw C1.out (fun W h=>h.box) (fun W h=>h.cell 4) (fun W h=>h.cell 24) (fun W h=>h.cell 0) VE.out KI.out US.out SM.out ?_
 intro r W hr h
 rw[BD.out] at hr
 subst hr
 have S1:=Lib.hid h
 clear h S0 BD
 intros
 cases g1 with
 | false=>
  obtain rfl:2=R:=HR.out
  have LO:=Lib.hid S1.out.low
  go_wp2_with fail
  go_ret
  exact⟨rfl,LO.out⟩
 | true=>
  go_upto_region 3 with fail
  refine q2uu (S:=BxS w p a) (B:=w.heap.size) (k:=p.kind) (nf:=p.filters.length) (nc:=p.codes.length) S1.out HLEN.out (fun W h=>h.cell 0) (fun W h=>h.cell 22) (fun W h=>h.cell 23) ?_
  intro r W2 hr h
  rw[HG2.out] at hr
  subst hr
  have S2:=Lib.hid h
  clear h S1 HG2
  intros
  cases g2 with
  | true=>
   obtain rfl:2=R:=HR.out
   have LO:=Lib.hid S2.out.low
   go_wp2_with fail
   go_ret
   exact⟨rfl,LO.out⟩
  | false=>
   have hR:=HR.out
   rw[if_neg (by decide)] at hR
   have VB:=VA.out rfl
   clear VA
   have k0:W2.cell? ⟨w.heap.size,0,none⟩=some (.int .i64 p.kind):=S2.out.cell 0
   have k24:W2.cell? ⟨w.heap.size,24,none⟩=some (.slice a.ps p.props.length a.pc):=S2.out.cell 24
   generalize qfk9 v p.kind p.props=q at *
   have VB:=Lib.hid VB
   by_cases hq:q=0
   ·subst hq
    rw[if_neg (by decide)] at hR
    have HR:=Lib.hid hR
    clear hR
    go_wp2_with fail
    refine(VB.out _ S2.out).mono ?_
    rintro e W3 ⟨rfl,hb⟩
    have S3:=Lib.hid (S2.out.call hb)
    clear hb S2 VB k0 k24
    go_wp2_with fail
    obtain⟨n,hnn⟩:∃n,p.filters.length=n:=⟨_,rfl⟩
    obtain⟨m,hmm⟩:∃m,p.codes.length=m:=⟨_,rfl⟩
    have HN:=Lib.hid hnn
    have HM:=Lib.hid hmm
    clear hnn hmm
    go_loopg [6] n (fun gk s6 wx=>∃k:Nat,k≤n∧gk=n - k∧s6 = .int .i64 (k:Int)∧(if qlck v p.kind (p.filters.drop k)≠0 then qlck v p.kind (p.filters.drop k) else qq92 v p.kind p.codes)=R∧BxS w p a wx)
    case atStart=>exact⟨0,Nat.zero_le _,rfl,rfl,HR.out,S3.out⟩
    case round=>
     obtain⟨k,hk,rfl,rfl,hE,hS⟩:=hrel
     have SK:=Lib.hid hS
     have k23:wr.cell? ⟨w.heap.size,23,none⟩=some (.slice a.fs n a.fc):=by rw[←HN.out];exact hS.cell 23
     clear S3 HR
     by_cases hlt:k < n
     ·have hkl:k < p.filters.length:=by rw[HN.out];exact hlt
      obtain⟨f,hpf⟩:∃f,p.filters[k]? = some f:=⟨_,List.getElem?_eq_getElem hkl⟩
      have hdr:p.filters.drop k=f::p.filters.drop (k+1):=by
       rw[List.drop_eq_getElem_cons hkl]
       rw[List.getElem?_eq_getElem hkl] at hpf
       rw[Option.some.inj hpf]
      have hmem:f∈p.filters:=List.mem_of_getElem? hpf
      have HFI:=Lib.hid (fun W (h:BxS w p a W)=>(HF.out W h).fi hpf)
      obtain⟨ga,ia,hga,hgl,a0,-,-,-,-⟩:=HFI.out wr hS
      rw[hga] at k23
      have HCE:=Lib.hid (fun W (h:BxS w p a W)=>by
       obtain⟨ga',ia',e,-,b0,b1,b2,b3,b4⟩:=HFI.out W h
       rw[hga] at e
       obtain⟨rfl,rfl⟩:ga'=ga∧ia'=ia:=by cases e;exact⟨rfl,rfl⟩
       exact(⟨b0,b1,b2,b3,b4⟩:W.cell? ⟨ga',ia'+k*5,none⟩=some (.string (bs f.topic))∧W.cell? ⟨ga',ia'+k*5+1,none⟩=some (.int .i64 f.qos)∧W.cell? ⟨ga',ia'+k*5+2,none⟩=some (.bool f.noLocal)∧W.cell? ⟨ga',ia'+k*5+3,none⟩=some (.bool f.asPub)∧W.cell? ⟨ga',ia'+k*5+4,none⟩=some (.int .i64 f.handling)))
      have FI:=fun W=>q2e6 (bs f.topic) W (by rw[q5zk];exact TP.out f hmem)
      rw[qkd1] at FI
      have OP:=Lib.hid (fun W (h:BxS w p a W)=>(q0at v p.kind f W (TP.out f hmem)).mono fun e W' hh=>(⟨hh.1,h.call hh.2⟩:_∧BxS w p a W'))
      have hn23:Hid (∀W,BxS w p a W→W.cell? ⟨w.heap.size,23,none⟩=some (.slice (some ⟨ga,ia,none⟩) n a.fc)):=Lib.hid (fun W h=>by rw[←hga,←HN.out];exact h.cell 23)
      rw[hdr,qlck] at hE
      have L:=Lib.hid hlt
      have gg:(k:Int) < (n:Int):=by omega
      generalize qw8n f.topic=b at *
      generalize optS v p.kind f=o at *
      replace FI:=Lib.hid FI
      have HE:=Lib.hid hE
      clear hdr hmem hkl hpf hS hE hlt hk hga hgl HFI
      go_wp2_with fail
      refine(FI.out _).mono ?_
      rintro e W4 ⟨rfl,hb⟩
      have S4:=Lib.hid (SK.out.call hb)
      clear hb k23 a0 SK
      cases b with
      | false=>
       obtain rfl:10=R:=HE.out
       have LO:=Lib.hid S4.out.low
       go_wp2_with fail
       go_ret
       exact⟨rfl,LO.out⟩
      | true=>
       go_upto_region 13 with fail
       refine qyy1 (S:=BxS w p a) (B:=w.heap.size) (k:=p.kind) (f:=f) (b:=o) (nb:=!o) (j:=k) (nf:=n) S4.out.draw (fun W h=>h.cell 0) hn23.out gg (fun W h=>(HCE.out W h).1) (fun W h=>(HCE.out W h).2.1) (fun W h=>(HCE.out W h).2.2.1) (fun W h=>(HCE.out W h).2.2.2.1) (fun W h=>(HCE.out W h).2.2.2.2) OP.out rfl ?_
       intro W5 h
       have S5:=Lib.hid h
       clear h S4 HCE hn23 OP
       cases o with
       | false=>
        obtain rfl:2=R:=HE.out
        have LO:=Lib.hid S5.out.low
        go_wp2_with fail
        go_ret
        exact⟨rfl,LO.out⟩
       | true=>
        have HE3:=HE.out
        simp only[Bool.true_eq_false,if_false] at HE3
        have HE3:=Lib.hid HE3
        clear HE
        go_wp2_with fail
        go_roundg (n - (k+1))
        case measure=>have:=L.out;omega
        case rel=>exact⟨k+1,by have:=L.out;omega,rfl,congrArg _ (by have:=SP.out;have:=HN.out;have:=L.out;unfold wrap64;omega),HE3.out,S5.out⟩
     ·obtain rfl:k=n:=by omega
      rw[List.drop_eq_nil_of_le (by rw[HN.out];exact Nat.le_refl _)] at hE
      have hE:qq92 v p.kind p.codes=R:=hE
      have HE:=Lib.hid hE
      clear hS hlt hk hE
      go_wp2_with fail
      clear k23
      go_loopg [7] m (fun gk s7 wx=>∃j:Nat,j≤m∧gk=m - j∧s7 = .int .i64 (j:Int)∧qq92 v p.kind (p.codes.drop j)=R∧BxS w p a wx)
      case atStart=>exact⟨0,Nat.zero_le _,rfl,rfl,HE.out,SK.out⟩
      case round=>
       obtain⟨j,hk,rfl,rfl,hE,hS⟩:=hrel
       clear SK HE
       have SK:=Lib.hid hS
       have k22:wr.cell? ⟨w.heap.size,22,none⟩=some (.slice a.cs m a.cc):=by rw[←HM.out];exact hS.cell 22
       by_cases hlt:j < m
       ·have hkl:j < p.codes.length:=by rw[HM.out];exact hlt
        obtain⟨z,hpf⟩:∃z,p.codes[j]? = some z:=⟨_,List.getElem?_eq_getElem hkl⟩
        have hdr:p.codes.drop j=z::p.codes.drop (j+1):=by
         rw[List.drop_eq_getElem_cons hkl]
         rw[List.getElem?_eq_getElem hkl] at hpf
         rw[Option.some.inj hpf]
        have HFI:=Lib.hid (fun W (h:BxS w p a W)=>(HC.out W h).int hpf)
        obtain⟨ga,ia,hga,hgl,-⟩:=HFI.out wr hS
        have HCE:=Lib.hid (fun W (h:BxS w p a W)=>by
         obtain⟨ga',ia',e,-,b0⟩:=HFI.out W h
         rw[hga] at e
         obtain⟨rfl,rfl⟩:ga'=ga∧ia'=ia:=by cases e;exact⟨rfl,rfl⟩
         exact(b0:W.cell? ⟨ga',ia'+j,none⟩=some (.int .i64 z)))
        have CO:=Lib.hid (fun W (h:BxS w p a W)=>(qgdh v p.kind z W).mono fun e W' hh=>(⟨hh.1,h.call hh.2⟩:_∧BxS w p a W'))
        have hn22:Hid (∀W,BxS w p a W→W.cell? ⟨w.heap.size,22,none⟩=some (.slice (some ⟨ga,ia,none⟩) m a.cc)):=Lib.hid (fun W h=>by rw[←hga,←HM.out];exact h.cell 22)
        rw[hdr,qq92] at hE
        have L:=Lib.hid hlt
        have gg:(j:Int) < (m:Int):=by omega
        generalize q190 v p.kind z=o at *
        have HE:=Lib.hid hE
        clear hdr hkl hpf hS hE hlt hk hga hgl HFI
        go_upto_region 18 with fail
        refine qdqq (S:=BxS w p a) (B:=w.heap.size) (k:=p.kind) (c:=z) (b:=o) (nb:=!o) (j:=j) (nc:=m) SK.out.draw (fun W h=>h.cell 0) hn22.out gg HCE.out CO.out rfl ?_
        intro W5 h
        have S5:=Lib.hid h
        clear h SK HCE hn22 CO k22
        cases o with
        | false=>
         obtain rfl:2=R:=HE.out
         have LO:=Lib.hid S5.out.low
         go_wp2_with fail
         go_ret
         exact⟨rfl,LO.out⟩
        | true=>
         have HE3:=HE.out
         rw[if_neg (by decide)] at HE3
         have HE3:=Lib.hid HE3
         clear HE
         go_wp2_with fail
         go_roundg (m - (j+1))
         case measure=>have:=L.out;omega
         case rel=>exact⟨j+1,by have:=L.out;omega,rfl,congrArg _ (by have:=SP.out;have:=HM.out;have:=L.out;unfold wrap64;omega),HE3.out,S5.out⟩
       ·obtain rfl:j=m:=by omega
        rw[List.drop_eq_nil_of_le (by rw[HM.out];exact Nat.le_refl _)] at hE
        have hE:0=R:=hE
        subst hE
        have LO:=Lib.hid SK.out.low
        clear hS hlt hk
        go_wp2_with fail
        go_ret
        exact⟨rfl,LO.out⟩
   ·rw[if_pos hq] at hR
    subst hR
    have g1:((q:Int)==0)=false:=by simp;omega
    have g2:((q:Int) != 0)=true:=by simp;omega
    clear hq HR
    go_wp2_with fail
    refine(VB.out _ S2.out).mono ?_
    rintro e W3 ⟨rfl,hb⟩
    have LO:=Lib.hid (S2.out.call hb).low
    clear hb
    go_wp2_with fail
    go_ret
    exact⟨rfl,LO.out⟩
theorem qa79(v:Int)(p:Pk)(a:Ad)(w:World)(hp:PkAt w p a)(sp:q21o p)(fp:RqP p a)(hv:q3m2 v p≠0) :
 Calls Tryz.prog 19 #[.int .i64 v,.agg (pkC p a)] w fun e w'=>e = .returned (.tuple #[.string ⟨#[]⟩,.int .i64 (q3m2 v p:Nat)])∧Below w.heap.size w w':=by
 have S0:=Lib.hid (BxS.made w p a)
 have C1:=Lib.hid (qwmp p a)
 have VA:=fun W (h:BxS w p a W)=>(q0yf v p a W (hp.below h.low) sp fp).mono fun e W' hh=>(⟨hh.1,h.call hh.2⟩:_∧BxS w p a W')
 generalize q3m2 v p=R at *
 have hr1:((R:Int)==0)=false:=by simp;omega
 have hr2:((R:Int) != 0)=true:=by simp;omega
 replace VA:=Lib.hid VA
 clear hv hp sp fp
 go_enter Tryz.func19,Tryz.ntmps19
 go_wp2_with (refine wpList_load_row rfl _ _ rfl w.heap.size rfl 29 _ (0,0) _ S0.out.box Tryz.underlying29 rfl (by rw[C1.out];exact q5nr) ?_)
 refine(VA.out _ S0.out).mono ?_
 rintro e W ⟨rfl,hb⟩
 have LO:=Lib.hid hb.low
 clear hb
 go_wp2_with fail
 go_ret2
 exact⟨rfl,LO.out⟩
theorem qvko(m:Nat)(hm:m < 256)(W:World):(convert 58 9 (.slice (some ⟨W.heap.size,0,none⟩) 1 1)).run Tryz.prog (W.alloc (.cells #[.int .u8 (m:Int)] 5)) = .ok (.string (bs [UInt8.ofNat m])) (W.alloc (.cells #[.int .u8 (m:Int)] 5)):=by
 have CV:(convert 58 9 (.slice (some ⟨W.heap.size,0,none⟩) 1 1)).run Tryz.prog (W.alloc (.cells #[.int .u8 ((UInt8.ofNat m).toNat:Int)] 5)) = .ok (.string (bs [UInt8.ofNat m])) (W.alloc (.cells #[.int .u8 ((UInt8.ofNat m).toNat:Int)] 5)):=
  q3j9 (base:=W.heap.size) [UInt8.ofNat m] ⟨rfl,.inr ⟨_,1,_,rfl,Nat.le_refl _,heap_alloc_new W _,Nat.le_refl _,by decide,rfl,rfl⟩⟩
 have h:(UInt8.ofNat m).toNat=m:=by rw[UInt8.toNat_ofNat'];omega
 rwa [h] at CV
theorem qmu4(v:Int)(p:Pk)(a:Ad)(w:World)(hp:PkAt w p a)(sp:q21o p)(fp:RqP p a)(hv:q3m2 v p=0) :
 Calls Tryz.prog 19 #[.int .i64 v,.agg (pkC p a)] w fun e w'=>e = .returned (.tuple #[.string (bs (rawS v p)),.int .i64 0])∧Below w.heap.size w w':=by
 have S0:=Lib.hid (BxS.made w p a)
 have C1:=Lib.hid (qwmp p a)
 have VA:=fun W (h:BxS w p a W)=>(q0yf v p a W (hp.below h.low) sp fp).mono fun e W' hh=>(⟨hh.1,h.call hh.2⟩:_∧BxS w p a W')
 rw[hv] at VA
 obtain⟨ho,hr,hfE,hcE⟩:=q87v hv
 obtain⟨h45,hk,hu,hi,h4,-⟩:=ok_s ho
 have lt:=qp2i hr
 have PR:=fun W (h:BxS w p a W)=>(q8yx v p.kind a.ps p.props.length a.pc p.props W (fp.ps W (hp.below h.low)) h45).mono fun e W' hh=>(⟨hh.1,h.call hh.2⟩:_∧BxS w p a W')
 have hfv:∀f∈p.filters,qecx f.topic=true:=fun f hf=>qme0 (q267 hfE f hf).1
 have hkk:p.filters≠[]→p.kind=8∨p.kind=10:=fun hne=>by
  rcases q9zy hk with ⟨_,h⟩ | ⟨ha,_⟩
  ·exact h
  ·exact absurd ((qmqi hu).2 ha) hne
 have fl:=fun k=>q12b (kind:=p.kind) (l:=p.filters.take k) (fun f hf=>hfv f (List.mem_of_mem_take hf))
 have hcr:∀c∈p.codes,0≤c∧c < 163:=fun c hm=>qzk9 (q6r9 hcE c hm)
 obtain⟨n,hn⟩:∃n:Nat,p.id=n:=⟨p.id.toNat,by omega⟩
 have hn2:(n:Int) < 65536:=by omega
 have PU:=fun W (h:BxS w p a W)=>(qeva n 2 W (by omega) (by decide) (by decide)).mono fun e W' hh=>(⟨hh.1,h.call hh.2⟩:_∧BxS w p a W')
 have hw:IntKind.u64.wrap (n:Int)=(n:Int):=by rw[IntKind.wrap_u64];omega
 have K4:∀W,BxS w p a W→W.cell? ⟨w.heap.size,4,none⟩=some (.int .i64 p.id):=fun W h=>h.cell 4
 have K22:∀W,BxS w p a W→W.cell? ⟨w.heap.size,22,none⟩=some (.slice a.cs p.codes.length a.cc):=fun W h=>h.cell 22
 have K23:∀W,BxS w p a W→W.cell? ⟨w.heap.size,23,none⟩=some (.slice a.fs p.filters.length a.fc):=fun W h=>h.cell 23
 have K0:∀W,BxS w p a W→W.cell? ⟨w.heap.size,0,none⟩=some (.int .i64 p.kind):=fun W h=>h.cell 0
 have K24:∀W,BxS w p a W→W.cell? ⟨w.heap.size,24,none⟩=some (.slice a.ps p.props.length a.pc):=fun W h=>h.cell 24
 rw[hn] at K4
 have hraw:rawS v p=be n 2++(qasq v p.kind p.props++(p.filters.flatMap (qjk5 p.kind)++q56c p.codes)):=by
  unfold rawS;rw[hn,Int.toNat_natCast]
 rw[hraw]
 have hb2:(be n 2).length=2:=q0rl _ _
 obtain⟨X,hX⟩:∃X,be n 2=X:=⟨_,rfl⟩
 rw[hX] at PU hb2 ⊢
 obtain⟨T,hT⟩:∃T,qasq v p.kind p.props=T:=⟨_,rfl⟩
 rw[hT] at PR lt ⊢
 have HFS:=Lib.hid (fun W (h:BxS w p a W)=>(hp.below h.low).fs)
 have HCS:=Lib.hid (fun W (h:BxS w p a W)=>(hp.below h.low).cs)
 obtain⟨l,hl⟩:∃l,p.filters=l:=⟨_,rfl⟩
 obtain⟨m,hm⟩:∃m,p.codes=m:=⟨_,rfl⟩
 have s1:=sp.1
 have s2:=sp.2.1
 rw[hl] at hkk hfv fl K23 HFS s2 ⊢
 rw[hm] at hcr K22 HCS s1 ⊢
 obtain⟨nl,hnl⟩:∃n,l.length=n:=⟨_,rfl⟩
 obtain⟨nm,hnm⟩:∃n,m.length=n:=⟨_,rfl⟩
 rw[hnl] at K23 s2
 rw[hnm] at K22 s1
 have LB:∀k j:Nat,k≤nl→j≤nm→(X++T++(l.take k).flatMap (qjk5 p.kind)++q56c (m.take j)).length≤140000000000:=fun k j hk hj=>by
  have h1:=fl k
  rw[List.length_take] at h1
  have h3:(q56c (m.take j)).length≤j:=by unfold q56c;rw[List.length_map,List.length_take];exact Nat.min_le_left _ _
  simp only[List.length_append,hb2]
  have:min k l.length≤70000:=by omega
  omega
 have hz:bs X++bs T=bs (X++T):=qyv7 _ _
 have hzs:(bs (X++T)).size≤9223372036854775807:=by
  have:=LB 0 0 (Nat.zero_le _) (Nat.zero_le _)
  rw[q5zk]
  simp[q56c] at this
  simp
  omega
 have HZ:=Lib.hid (And.intro hz hzs)
 replace LB:=Lib.hid LB
 replace VA:=Lib.hid VA
 replace PR:=Lib.hid PR
 replace PU:=Lib.hid PU
 replace K0:=Lib.hid K0
 replace K4:=Lib.hid K4
 replace K22:=Lib.hid K22
 replace K23:=Lib.hid K23
 replace K24:=Lib.hid K24
 replace hcr:=Lib.hid hcr
 replace hkk:=Lib.hid hkk
 replace hfv:=Lib.hid hfv
 have HN:=Lib.hid (show IntKind.u64.wrap (n:Int)=(n:Int) from hw)
 have HL:=Lib.hid (And.intro hnl hnm)
 have q0:(nl:Int)≤70000:=by omega
 have q1:(nm:Int)≤70000:=by omega
 clear hv ho hr hfE hcE h45 hk hu hi h4 lt fl hn hn2 hraw hb2 hX hT hl hm s1 s2 hnl hnm hp sp fp hw hz hzs
 generalize p.kind=kind at *
 generalize a.fs=A at *
 generalize a.fc=fc at *
 generalize a.cs=C at *
 generalize a.cc=cc at *
 generalize a.ps=P at *
 generalize a.pc=pc at *
 generalize p.props.length=np at *
 go_enter Tryz.func19,Tryz.ntmps19
 go_wp2_with (refine wpList_load_row rfl _ _ rfl w.heap.size rfl 29 _ (0,0) _ S0.out.box Tryz.underlying29 rfl (by rw[C1.out];exact q5nr) ?_)
 refine(VA.out _ S0.out).mono ?_
 rintro e W ⟨rfl,hb⟩
 have S1:=Lib.hid hb
 clear hb S0 VA
 go_upto_region 4 with fail
 refine qbhr (S:=BxS w p a) (B:=w.heap.size) (k:=kind) (i:=(n:Int)) (A:=P) (n:=np) (cp:=pc) (X:=bs X) (Y:=bs T) (Z:=bs (X++T)) S1.out.draw HN.out HZ.out.1 HZ.out.2 K0.out K4.out K24.out PU.out PR.out ?_
 intro W2 h
 have S2:=Lib.hid h
 clear h S1 PR PU
 go_wp2_with fail
 go_loopg [7,8] nl (fun gk s7 s8 wx=>∃k:Nat,k≤nl∧gk=nl - k∧s7 = .string (bs (X++T++(l.take k).flatMap (qjk5 kind)++q56c (m.take 0)))∧s8 = .int .i64 (k:Int)∧BxS w p a wx)
 case atStart=>exact⟨0,Nat.zero_le _,rfl,by simp[q56c],rfl,S2.out⟩
 case round=>
  obtain⟨k,hk,rfl,rfl,rfl,hS⟩:=hrel
  have SK:=Lib.hid hS
  clear S2
  have k23:=K23.out _ hS
  by_cases hlt:k < nl
  ·have hkl:k < l.length:=by rw[HL.out.1];exact hlt
   obtain⟨f,hpf⟩:∃f,l[k]? = some f:=⟨_,List.getElem?_eq_getElem hkl⟩
   have hmem:=List.mem_of_getElem? hpf
   have hvf:=hfv.out f hmem
   have TX:=fun W=>q2u7 (bs f.topic) W (by rw[qkd1];exact hvf)
   rw[qkd1] at TX
   have HFI:=Lib.hid (fun W (h:BxS w p a W)=>(HFS.out W h).fi hpf)
   obtain⟨ga,ia,hga,-,a0,-,-,-,-⟩:=HFI.out wr hS
   subst hga
   have HCE:=Lib.hid (fun W (h:BxS w p a W)=>by
    obtain⟨ga',ia',e,-,b0,b1,b2,b3,b4⟩:=HFI.out W h
    obtain⟨rfl,rfl⟩:ga'=ga∧ia'=ia:=by cases e;exact⟨rfl,rfl⟩
    exact(⟨b0,b1,b2,b3,b4⟩:W.cell? ⟨ga',ia'+k*5,none⟩=some (.string (bs f.topic))∧W.cell? ⟨ga',ia'+k*5+1,none⟩=some (.int .i64 f.qos)∧W.cell? ⟨ga',ia'+k*5+2,none⟩=some (.bool f.noLocal)∧W.cell? ⟨ga',ia'+k*5+3,none⟩=some (.bool f.asPub)∧W.cell? ⟨ga',ia'+k*5+4,none⟩=some (.int .i64 f.handling)))
   have hts:=qki5 hpf
   have hacc:X++T++(l.take k).flatMap (qjk5 kind)++q56c (m.take 0)++qjk5 kind f=X++T++(l.take (k+1)).flatMap (qjk5 kind)++q56c (m.take 0):=by
    rw[hts];simp[q56c]
   have hbd:=LB.out (k+1) 0 (by omega) (Nat.zero_le _)
   rw[←hacc,List.length_append] at hbd
   obtain⟨acc,hac⟩:∃z,X++T++(l.take k).flatMap (qjk5 kind)++q56c (m.take 0)=z:=⟨_,rfl⟩
   rw[hac] at hacc hbd ⊢
   obtain⟨nxt,hnx⟩:∃z,X++T++(l.take (k+1)).flatMap (qjk5 kind)++q56c (m.take 0)=z:=⟨_,rfl⟩
   rw[hnx] at hacc
   have HNX:=Lib.hid hnx
   have L:=Lib.hid hlt
   have g1:(k:Int) < (nl:Int):=by omega
   have OP:=Lib.hid (fun W=>qy2j f W)
   unfold fiC at OP
   have hbt:=qiwy f
   obtain⟨mb,hmb⟩:∃z,qang f=z:=⟨_,rfl⟩
   rw[hmb] at OP hbt
   obtain⟨E,hE⟩:∃z,enc2 f.topic=z:=⟨_,rfl⟩
   rw[hE] at TX
   have hfb:qjk5 kind f=E++if kind=8 then [UInt8.ofNat mb] else []:=by unfold qjk5;rw[hE,hmb]
   rw[hfb] at hacc hbd
   have k8:=hkk.out (by intro e;rw[e] at hkl;simp at hkl)
   replace TX:=Lib.hid TX
   generalize bs f.topic=x0 at *
   generalize f.qos=x1 at *
   generalize f.noLocal=x2 at *
   generalize f.asPub=x3 at *
   generalize f.handling=x4 at *
   clear hts hkl hpf hS hlt hk hmem hvf hac hnx hmb hE hfb HFI
   rcases k8 with rfl | rfl
   ·rw[if_pos rfl] at hacc hbd
    have e1:bs acc++bs E=bs (acc++E):=qyv7 _ _
    have e2:bs (acc++E)++bs [UInt8.ofNat mb]=bs nxt:=by rw[qyv7,List.append_assoc,hacc]
    rw[List.length_append,List.length_singleton] at hbd
    have t1:¬9223372036854775807 < (bs acc).size+(bs E).size:=by rw[q5zk,q5zk];omega
    have t2:¬9223372036854775807 < (bs (acc++E)).size+(bs [UInt8.ofNat mb]).size:=by rw[q5zk,q5zk,List.length_append,List.length_singleton];omega
    have E1:=Lib.hid (And.intro e1 t1)
    have E2:=Lib.hid (And.intro e2 t2)
    have CV:=Lib.hid (qvko mb (by omega))
    have hm2:(mb:Int) < 256:=by omega
    clear hacc hbd hbt e1 e2 t1 t2
    generalize bs acc=Y0 at *
    generalize bs E=Y1 at *
    generalize bs (acc++E)=Y2 at *
    obtain⟨Y3,hY3⟩:∃y,bs nxt=y:=⟨_,rfl⟩
    rw[hY3] at E2
    have HY3:=Lib.hid hY3
    clear hY3
    generalize bs [UInt8.ofNat mb]=Y4 at *
    go_wp2_with fail
    refine(TX.out _).mono ?_
    rintro e W4 ⟨rfl,hb⟩
    have S4:=Lib.hid (SK.out.call hb)
    have k0:=K0.out _ S4.out
    have k23:=K23.out _ S4.out
    obtain⟨b0,b1,b2,b3,b4⟩:=HCE.out _ S4.out
    have e1:=E1.out.1
    have t1:=E1.out.2
    clear hb
    go_wp2_with fail
    refine(OP.out _).mono ?_
    rintro e W5 ⟨rfl,hb⟩
    have S5:=Lib.hid (S4.out.call hb)
    have cv:=CV.out W5
    have e2:=E2.out.1
    have t2:=E2.out.2
    clear hb b0 b1 b2 b3 b4 k0 e1 t1
    go_wp2_with fail
    clear e2 t2 cv
    have S6:=Lib.hid (S5.out.call (qybm (.cells #[.int .u8 (mb:Int)] 5)))
    go_roundg (nl - (k+1))
    case measure=>have:=L.out;omega
    case rel=>exact⟨k+1,by have:=L.out;omega,rfl,by rw[HNX.out,HY3.out],by go_num,S6.out⟩
   ·rw[if_neg (by decide),List.append_nil] at hacc hbd
    have e1:bs acc++bs E=bs nxt:=by rw[qyv7,hacc]
    have t1:¬9223372036854775807 < (bs acc).size+(bs E).size:=by rw[q5zk,q5zk];omega
    have E1:=Lib.hid (And.intro e1 t1)
    clear hacc hbd hbt e1 t1
    generalize bs acc=Y0 at *
    generalize bs E=Y1 at *
    obtain⟨Y3,hY3⟩:∃y,bs nxt=y:=⟨_,rfl⟩
    rw[hY3] at E1
    have HY3:=Lib.hid hY3
    clear hY3
    go_wp2_with fail
    refine(TX.out _).mono ?_
    rintro e W4 ⟨rfl,hb⟩
    have S4:=Lib.hid (SK.out.call hb)
    have k0:=K0.out _ S4.out
    have e1:=E1.out.1
    have t1:=E1.out.2
    clear hb
    go_wp2_with fail
    clear e1 t1 k0
    go_roundg (nl - (k+1))
    case measure=>have:=L.out;omega
    case rel=>exact⟨k+1,by have:=L.out;omega,rfl,by rw[HNX.out,HY3.out],by go_num,S4.out⟩
  ·obtain rfl:k=nl:=by omega
   have k22:=K22.out _ hS
   clear hS hlt hk
   go_wp2_with fail
   clear k22 k23
   go_loopg [7,11] nm (fun gk s7 s11 wx=>∃j:Nat,j≤nm∧gk=nm - j∧s7 = .string (bs (X++T++(l.take k).flatMap (qjk5 kind)++q56c (m.take j)))∧s11 = .int .i64 (j:Int)∧BxS w p a wx)
   case atStart=>exact⟨0,Nat.zero_le _,rfl,rfl,rfl,SK.out⟩
   case round=>
    obtain⟨j,hj,rfl,rfl,rfl,hS⟩:=hrel
    clear SK
    have SK:=Lib.hid hS
    have k22:=K22.out _ hS
    by_cases hlt:j < nm
    ·have hjl:j < m.length:=by rw[HL.out.2];exact hlt
     obtain⟨z,hp⟩:∃z,m[j]? = some z:=⟨_,List.getElem?_eq_getElem hjl⟩
     obtain⟨ga,ia,hga,-,a0⟩:=(HCS.out _ hS).int hp
     subst hga
     have hz:=hcr.out z (List.mem_of_getElem? hp)
     obtain⟨c,rfl⟩:=Int.eq_ofNat_of_zero_le hz.1
     have hts:=qki5 hp
     have hacc:X++T++(l.take k).flatMap (qjk5 kind)++q56c (m.take j)++[UInt8.ofNat c]=X++T++(l.take k).flatMap (qjk5 kind)++q56c (m.take (j+1)):=by
      rw[hts];simp[q56c]
     have hbd:=LB.out k (j+1) (Nat.le_refl _) (by omega)
     rw[←hacc,List.length_append,List.length_singleton] at hbd
     obtain⟨acc,hac⟩:∃z,X++T++(l.take k).flatMap (qjk5 kind)++q56c (m.take j)=z:=⟨_,rfl⟩
     rw[hac] at hacc hbd ⊢
     obtain⟨nxt,hnx⟩:∃z,X++T++(l.take k).flatMap (qjk5 kind)++q56c (m.take (j+1))=z:=⟨_,rfl⟩
     rw[hnx] at hacc
     have HNX:=Lib.hid hnx
     have e2:bs acc++bs [UInt8.ofNat c]=bs nxt:=by rw[qyv7,hacc]
     have t2:¬9223372036854775807 < (bs acc).size+(bs [UInt8.ofNat c]).size:=by rw[q5zk,q5zk,List.length_singleton];omega
     have cv:=qvko c (by omega) wr
     have L:=Lib.hid hlt
     have g1:(j:Int) < (nm:Int):=by omega
     have g2:(c:Int) < 256:=by omega
     clear hts hacc hbd hjl hp hS hlt hj hz hac hnx
     generalize bs acc=Y0 at *
     obtain⟨Y3,hY3⟩:∃y,bs nxt=y:=⟨_,rfl⟩
     rw[hY3] at e2
     have HY3:=Lib.hid hY3
     clear hY3
     generalize bs [UInt8.ofNat c]=Y4 at *
     go_wp2_with fail
     clear e2 t2 cv
     have S6:=Lib.hid (SK.out.call (qybm (.cells #[.int .u8 (c:Int)] 5)))
     go_roundg (nm - (j+1))
     case measure=>have:=L.out;omega
     case rel=>exact⟨j+1,by have:=L.out;omega,rfl,by rw[HNX.out,HY3.out],by go_num,S6.out⟩
    ·obtain rfl:j=nm:=by omega
     have hfin:X++T++(l.take k).flatMap (qjk5 kind)++q56c (m.take j)=X++(T++(l.flatMap (qjk5 kind)++q56c m)):=by
      rw[List.take_of_length_le (by rw[HL.out.1];exact Nat.le_refl _),List.take_of_length_le (by rw[HL.out.2];exact Nat.le_refl _)]
      simp
     rw[hfin]
     have LO:=Lib.hid SK.out.low
     clear hS hlt hj hfin
     go_wp2_with fail
     go_ret2
     exact⟨rfl,LO.out⟩
theorem qyfq(v:Int)(p:Pk)(a:Ad)(w:World)(hp:PkAt w p a)(sp:q21o p)(fp:RqP p a) :
 Calls Tryz.prog 19 #[.int .i64 v,.agg (pkC p a)] w fun e w'=>e = .returned (.tuple #[.string (bs (qktk v p).1),.int .i64 ((qktk v p).2:Nat)])∧Below w.heap.size w w':=by
 unfold qktk
 by_cases hv:q3m2 v p=0
 ·rw[if_neg (by simpa using hv)]
  exact qmu4 v p a w hp sp fp hv
 ·rw[if_pos hv]
  exact qa79 v p a w hp sp fp hv
theorem Cs.num_len(y:Cs)(n:Nat):(y.num n).2.r.length≤y.r.length:=by
 unfold Cs.num Cs.take
 split
 ·exact Nat.le_refl _
 ·split
  ·exact Nat.le_refl _
  ·simp
theorem Cs.props_len(v kind:Int)(y:Cs):(y.props v kind).2.r.length≤y.r.length:=by
 unfold Cs.props
 split
 ·exact Nat.le_refl _
 ·simp
theorem qnyk(v kind:Int)(y:Cs):(y.props v kind).1.length≤1010∧∀p∈(y.props v kind).1,p.text.length≤200000:=by
 have hn:([]:List Pr).length≤1010∧∀p∈([]:List Pr),p.text.length≤200000:=⟨Nat.zero_le _,fun p hp=>(nomatch hp)⟩
 unfold Cs.props
 split
 ·exact hn
 ·simp only
  obtain⟨h1,h2⟩:=qdz1 kind y.r
  exact⟨by omega,fun p hp=>by have:=(h1 p hp).2.1;omega⟩
theorem qif2(y:Cs):y.text.1.length≤65535:=by
 unfold Cs.text
 split
 ·exact Nat.zero_le _
 ·exact(qslt y.r).2
theorem qhgx(v kind:Int)(y:Cs):(y.filt v kind).1.topic.length≤65535:=by
 unfold Cs.filt
 split
 ·exact qif2 y
 ·exact qif2 y
theorem qt98(v kind:Int):∀(n:Nat) (y:Cs),∀f∈(Cs.filts v kind n y).1,f.topic.length≤65535
 | 0,_,f,hf=>by cases hf
 | n+1,y,f,hf=>by
  unfold Cs.filts at hf
  split at hf
  ·cases hf
  ·rcases List.mem_cons.1 hf with rfl | hf
   ·exact qhgx v kind y
   ·exact qt98 v kind n _ f hf
theorem quxj{y:Cs}{b:UInt8}{l:List UInt8}(he:y.e=0)(hr:y.r=b::l):y.num 1=(b.toNat,⟨l,0⟩):=by
 obtain⟨r,e⟩:=y
 simp only at he hr
 subst he hr
 have:=Cs.one_app (k:=b.toNat) (t:=l) b.toNat_lt
 rwa [show UInt8.ofNat b.toNat=b by simp] at this
structure RqS(w:World)(cb:Nat)(s:ByteArray)(B H:Nat)(P:Pk)(a:Ad)(y:Cs)(t:TypeId)(k n:Nat)(xs:List Value)(val:Value)(W:World):Prop where
 low:Below w.heap.size w W
 rs:W.heap[w.heap.size]? = some (.cells pkZ 29 (0,0))
 pk:W.heap[B]? = some (.cells (pkC P a) 29 (0,0))
 cs:RsAt W cb s y
 ps:PL W a.ps P.props
 own:W.ownsRow H t k val n xs
 c1:w.heap.size < cb
 c2:cb < B
 c3:B < H
 pf:∀g i,a.ps=some ⟨g,i,none⟩→B < g
 pg:P.props≠[]→∀g i,a.ps=some ⟨g,i,none⟩→g < H
 h9:H≤W.heap.size
section
variable{w W W':World}{cb B H:Nat}{s:ByteArray}{P P':Pk}{a a':Ad}{x y z:Cs}{t:TypeId}{k n m:Nat}{xs ys:List Value}{val val':Value}{v kind:Int}
theorem RqS.call(h:RqS w cb s B H P a y t k n xs val W)(hc:RsAt W' cb s z)(hg:W.grownBy W' (some cb)):RqS w cb s B H P a z t k n xs val W':=by
 have c1:=h.c1
 have c2:=h.c2
 have c3:=h.c3
 exact⟨h.low.grown hg h.low.size (fun k e=>by have:=Option.some.inj e;omega),(hg.block _ (lt_of_block h.rs) (fun e=>by have:=Option.some.inj e;omega)).trans h.rs,(hg.block _ (lt_of_block h.pk) (fun e=>by have:=Option.some.inj e;omega)).trans h.pk,
  hc,h.ps.grown hg (fun g i e=>by have:=h.pf g i e;omega),h.own.kept hg (.inr fun e=>by have:=(h.own.lt _ e).1;omega),c1,c2,c3,h.pf,h.pg,Nat.le_trans h.h9 hg.size⟩
theorem RqS.below(h:RqS w cb s B H P a y t k n xs val W)(hb:Below W.heap.size W W'):RqS w cb s B H P a y t k n xs val W':=h.call (h.cs.below hb) (q9cp hb _)
theorem RqS.more(h:RqS w cb s B H P a y t k n xs val W)(hown:W'.ownsRow H t k val' m ys)(hg:W.grownBy W' val.ownBlock):RqS w cb s B H P a y t k m ys val' W':=by
 have ho:∀j,val.ownBlock=some j→H≤j:=fun j e=>(h.own.lt j e).1
 have c1:=h.c1
 have c2:=h.c2
 have c3:=h.c3
 have h9:=h.h9
 have o:∀k,k < H→W'.heap[k]? = W.heap[k]? := fun k hk=>hg.block k (by omega) (fun e=>by have:=ho k e.symm;omega)
 exact⟨⟨hg.os.trans h.low.os,hg.tape.trans h.low.tape,hg.output.trans h.low.output,Nat.le_trans h.low.size hg.size,fun j hj=>(o j (by omega)).trans (h.low.block j hj)⟩,(o _ (by omega)).trans h.rs,(o _ (by omega)).trans h.pk,h.cs.of_block (o _ (by omega)),
  fun hne=>h.ps.kept hg.size (fun g i e _=>o g (h.pg hne g i e)) hne,hown,c1,c2,c3,h.pf,h.pg,Nat.le_trans h9 hg.size⟩
theorem RqS.put(h:RqS w cb s B H P a y t k n xs val W)(j:Nat)(u:Value)(he:(pkC P a).setIfInBounds j u=pkC P' a')(hp:P'.props=P.props)(ha:a'.ps=a.ps):RqS w cb s B H P' a' y t k n xs val (W.setCell ⟨B,j,none⟩ u):=by
 have o:∀k,k≠B→(W.setCell ⟨B,j,none⟩ u).heap[k]? = W.heap[k]? := fun k hk=>heap_setCell_other W ⟨B,j,none⟩ k u hk
 have c1:=h.c1
 have c2:=h.c2
 have c3:=h.c3
 have sz:=(q99v W B j u).size
 refine⟨qo4g h.low (by omega),(o _ (by omega)).trans h.rs,qv6p h.pk he,h.cs.of_block (o _ (by omega)),?_,h.own.kept (q99v W B j u) (.inr fun e=>by have:=(h.own.lt _ e).1;omega),c1,c2,c3,?_,?_,Nat.le_trans h.h9 sz⟩
 ·rw[hp,ha]
  exact h.ps.kept sz (fun g i e _=>o g (by have:=h.pf g i e;omega))
 ·rw[ha];exact h.pf
 ·rw[hp,ha];exact h.pg
theorem RqS.cell(h:RqS w cb s B H P a y t k n xs val W)(j:Nat):W.cell? ⟨B,j,none⟩=(pkC P a)[j]? := cell_of_row _ _ j _ _ _ h.pk
theorem RqS.fr(h:RqS w cb s B H P a y t k n xs val W)(j:Nat):W.frozen? ⟨B,j,none⟩=false:=frozen_of_row _ _ _ _ _ h.pk
def RqT(w:World)(cb:Nat)(s:ByteArray)(B H:Nat)(P:Pk)(a:Ad)(y z:Cs)(t:TypeId)(k:Nat)(val:Value)(n:Nat)(xs ys:List Value)(E:Array Value)(P':Pk)(a':Nat→Nat→Ad):Nat→Nat→Nat→Nat→World→Prop
 | 0,_,_,_,W=>RqS w cb s B H P a y t k n xs val W
 | 1,_,_,_,W=>RqS w cb s B H P a z t k n xs val W
 | 2,m,_,_,W=>RqS w cb s B H P a z t k n xs val W∧W.heap[m]? = some (.cells E t (0,0))
 | 3,_,g,c,W=>RqS w cb s B H P a z t k (n+1) ys (.slice (some ⟨g,0,none⟩) (n+1) c) W
 | _,_,g,c,W=>RqS w cb s B H P' (a' g c) z t k (n+1) ys (.slice (some ⟨g,0,none⟩) (n+1) c) W
end
theorem qzf1{W:World}{base n m:Nat}{e:TypeId}{size bytes:Nat}{T:TypeId}{i:TypeInfo}{zv:Value}{A:Option Addr}{c:Nat}{xs:List Value}{E:Array Value}
 (ht:(Tryz.prog).underlying T=some (.slice e)) (hi:(Tryz.prog).info? e=some i) (hz:i.zero=some zv) (hsize:i.size=size) (hby:i.bytes=bytes) (hzs:zv.cells.size=size) (hsz:0 < size)
 (hown:W.ownsRow base e size (.slice A n c) n xs) (hE:W.heap[m]? = some (.cells E e (0,0))) (hl:E.size=size) (h1:∀u∈E.toList,u.oneCell'=true) (hn:n≤69000) (hb:bytes≤1000) (hbase:base≤W.heap.size) :
 ∃g' c' w',(Builtin.append_ #[T,T] T #[.slice A n c,.slice (some ⟨m,0,none⟩) 1 1]).run Tryz.prog W = .ok (.slice (some ⟨g',0,none⟩) (n+1) c') w'∧w'.ownsRow base e size (.slice (some ⟨g',0,none⟩) (n+1) c') (n+1) (xs++E.toList)∧W.grownBy w' (Value.slice A n c).ownBlock:=by
 have hbb:(n+1)*bytes≤69001*1000:=Nat.mul_le_mul (by omega) hb
 obtain⟨v',w',hr,ho,hg,-,-⟩:=run_append_own_at (P:=Tryz.prog) W base T T e i zv size bytes ht hi hz hsize hby hzs hsz (.slice A n c) n xs hown ⟨m,0,none⟩ 1 1 E.toList (by simp[hl]) (World.news_of_block hE) h1 (by simp only[maxLen];omega) (by omega) hbase
 rcases ho.2 with ⟨_,h0⟩ | ⟨g,cap,cur,e,_⟩
 ·omega
 ·subst e
  exact⟨g,cap,w',hr,ho,hg⟩
def qP(kind:Int)(i:Nat)(L:List Pr)(l:List Fi)(c:List Int):Pk:={Pk.zero with kind:=kind,id:=(i:Nat),props:=L,filters:=l,codes:=c}
def qA(ps:Option Addr)(pc:Nat)(fs:Option Addr)(fc:Nat)(cs:Option Addr)(cc:Nat):Ad:={adZ with ps:=ps,pc:=pc,fs:=fs,fc:=fc,cs:=cs,cc:=cc}
theorem qp0f(kind:Int)(i:Nat)(L:List Pr)(l:List Fi)(f:Fi)(ps:Option Addr)(pc:Nat)(A2:Option Addr)(c g c':Nat):(pkC (qP kind i L l []) (qA ps pc A2 c none 0)).setIfInBounds 23 (.slice (some ⟨g,0,none⟩) (l.length+1) c')=pkC (qP kind i L (l++[f]) []) (qA ps pc (some ⟨g,0,none⟩) c' none 0):=by
 have e:(l++[f]).length=l.length+1:=by simp
 unfold qP qA pkC
 simp only[e]
 rfl
theorem qvkj(kind:Int)(i:Nat)(L:List Pr)(l:List Int)(z:Int)(ps:Option Addr)(pc:Nat)(A2:Option Addr)(c g c':Nat):(pkC (qP kind i L [] l) (qA ps pc none 0 A2 c)).setIfInBounds 22 (.slice (some ⟨g,0,none⟩) (l.length+1) c')=pkC (qP kind i L [] (l++[z])) (qA ps pc none 0 (some ⟨g,0,none⟩) c'):=by
 have e:(l++[z]).length=l.length+1:=by simp
 unfold qP qA pkC
 simp only[e]
 rfl
def qeic(w:World)(R:Pk×Nat)(e:Ending)(W:World):Prop:=
 ∃a:Ad,e = .returned (.tuple #[.agg (pkC R.1 a),.int .i64 (R.2:Nat)])∧PkAt W R.1 a∧Below w.heap.size w W
def QeS(w:World)(cb:Nat)(s:ByteArray)(B:Nat)(P:Pk)(y:Cs)(W:World):Prop:=
 ∃a H t k n xs val,RqS w cb s B H P a y t k n xs val W∧(∀V,W.heap.size≤V.heap.size→(∀g,B < g→g < W.heap.size→V.heap[g]? = W.heap[g]?)→PkAt V P a)∧RqP P a∧q21o P
structure QlS(w:World)(cb:Nat)(s:ByteArray)(B:Nat)(P:Pk)(a:Ad)(y:Cs)(D:Array Value)(W0:World)(u:Bool×Bool)(W:World):Prop where
 low:Below w.heap.size w W
 rs:W.heap[w.heap.size]? = some (.cells (if u.2=true then D else pkZ) 29 (0,0))
 pk:W.heap[B]? = some (.cells (pkC P a) 29 (0,0))
 cs:u.1=false→RsAt W cb s y
 kp:∀g,B < g→g < W0.heap.size→W.heap[g]? = W0.heap[g]?
 sz:W0.heap.size≤W.heap.size
 c1:w.heap.size < cb
 c2:cb < B
section
variable{w W W' W0:World}{cb:Nat}{s:ByteArray}{B:Nat}{P:Pk}{a:Ad}{y z:Cs}{D:Array Value}{u:Bool×Bool}
theorem QlS.call{b:Bool}(h:QlS w cb s B P a y D W0 u W)(hg:W.grownBy W' (some cb))(hc:b=false→RsAt W' cb s y):QlS w cb s B P a y D W0 (b,u.2) W':=by
 have c1:=h.c1
 have c2:=h.c2
 have sz:=h.sz
 exact⟨h.low.grown hg h.low.size (fun k e=>by have:=Option.some.inj e;omega),(hg.block _ (lt_of_block h.rs) (fun e=>by have:=Option.some.inj e;omega)).trans h.rs,(hg.block _ (lt_of_block h.pk) (fun e=>by have:=Option.some.inj e;omega)).trans h.pk,hc,
  fun g h1 h2=>(hg.block g (by omega) (fun e=>by have:=Option.some.inj e;omega)).trans (h.kp g h1 h2),Nat.le_trans sz hg.size,c1,c2⟩
theorem QlS.below(h:QlS w cb s B P a y D W0 u W)(hb:Below W.heap.size W W'):QlS w cb s B P a y D W0 u W':=h.call (q9cp hb _) (fun e=>(h.cs e).below hb)
theorem QlS.store(h:QlS w cb s B P a y D W0 (true,false) W):QlS w cb s B P a y D W0 (true,true) (W.setRow w.heap.size D):=by
 have c1:=h.c1
 have c2:=h.c2
 exact⟨q8xz h.low (Nat.le_refl _) _,setRow_heap _ _ _ D _ _ h.rs,(setRow_other _ _ _ _ (by omega)).trans h.pk,fun e=>(by cases e),fun g h1 h2=>(setRow_other _ _ _ _ (by omega)).trans (h.kp g h1 h2),by simpa [World.setRow] using h.sz,c1,c2⟩
end
theorem qsof{y:Cs}(h:y.e≠0∨y.r=[]):y.codes=([],y):=by
 obtain⟨r,e⟩:=y
 unfold Cs.codes
 by_cases he:e=0
 ·have hr:r=[]:=h.resolve_left (fun h=>h he)
  subst he hr
  rfl
 ·rw[if_pos he]
theorem qdvr{y:Cs}{b:UInt8}{l:List UInt8}(he:y.e=0)(hr:y.r=b::l):y.codes=(((b.toNat:Nat):Int)::(Cs.mk l 0).codes.1,(Cs.mk l 0).codes.2):=by
 obtain⟨r,e⟩:=y
 simp only at he hr
 subst he hr
 rfl
theorem qvf5(v kind:Int)(s:ByteArray)(w:World)(hk0:-9223372036854775808≤kind)(hk1:kind≤9223372036854775807)(hm:s.size≤2000) :
 Calls Tryz.prog 20 #[.int .i64 v,.int .i64 kind,.string s] w (qeic w (q98d v kind s.data.toList)):=by
 have HZ:=Lib.hid qbwp
 have hzv:=qrai
 have hne:¬pkZ=#[]:=by intro h;have:=qbwp;rw[h] at this;cases this
 have PZ:Hid (pkZ.all (·.oneCell')=true):=Lib.hid (qmz0 Pk.zero adZ)
 have R0:=Lib.hid (heap_alloc_new w (.cells pkZ 29))
 have L0:=Lib.hid (qybm (w:=w) (.cells pkZ 29))
 have ZW:=Lib.hid (show(w.alloc (.cells pkZ 29)).heap.size=w.heap.size+1 by simp)
 have VE:=fun W=>qyet v W
 have KI:=fun W=>qs10 kind W
 obtain⟨R,hR⟩:∃R,q98d v kind s.data.toList=R:=⟨_,rfl⟩
 rw[hR]
 obtain⟨b1,hb1⟩:∃b,(versC v&&qfws kind)=b:=⟨_,rfl⟩
 have HB1:=Lib.hid hb1
 have HR:=Lib.hid hR
 have HM:=Lib.hid hm
 have HK:=Lib.hid (And.intro hk0 hk1)
 clear hR hb1 hm hk0 hk1
 go_enter Tryz.func20,Tryz.ntmps20
 go_upto_region 1 with fail
 generalize w.alloc (.cells pkZ 29)=W0 at *
 go_cut [17] (fun s17 wx=>s17 = .bool (!b1)∧wx=W0)
 case first=>
  have hb:=HB1.out
  clear HK HM HR HB1
  cases hv:versC v with
  | false=>
   rw[hv,Bool.false_and] at hb
   rw[hv] at VE
   subst hb
   replace VE:=Lib.hid VE
   clear hv KI
   go_wp2_with fail
   refine(VE.out _).mono ?_
   rintro e W ⟨rfl,rfl⟩
   go_wp2_with fail
   go_meet
   exact⟨rfl,rfl⟩
  | true=>
   rw[hv,Bool.true_and] at hb
   rw[hv] at VE
   rw[hb] at KI
   replace VE:=Lib.hid VE
   replace KI:=Lib.hid KI
   clear hv hb
   go_wp2_with fail
   refine(VE.out _).mono ?_
   rintro e W ⟨rfl,rfl⟩
   go_wp2_with fail
   refine(KI.out _).mono ?_
   rintro e W ⟨rfl,rfl⟩
   cases b1
   all_goals
    go_wp2_with fail
    go_meet
    exact⟨rfl,rfl⟩
 case rest=>
  obtain⟨rfl,rfl⟩:=hcut
  cases b1 with
  | false=>
   have hr:R=(Pk.zero,2):=by
    rw[←HR.out,q98d,if_pos HB1.out]
   have RT:=Lib.hid (show qeic w R (.returned (.tuple #[.agg pkZ,.int .i64 2])) (wc.setRow w.heap.size pkZ) by
    rw[hr];exact⟨adZ,rfl,qa3p _,q8xz L0.out (Nat.le_refl _) _⟩)
   clear hr HR HB1 VE KI
   go_wp2_with (first
    | (refine wpList_buildTo rfl 29 _ rfl (some _) rfl pkZ (by kernel_rfl) ?_)
    | (refine wpList_store_row rfl _ _ _ rfl w.heap.size pkZ rfl rfl 29 _ R0.out (by rw[HZ.out];exact q5nr) rfl PZ.out ?_))
   exact q8iy (cs:=pkZ) rfl rfl rfl rfl Tryz.underlying29 rfl (by rw[HZ.out];exact q5nr) (setRow_heap _ _ _ _ _ _ R0.out) RT.out
  | true=>
   have hbk:=HB1.out
   rw[Bool.and_eq_true] at hbk
   have hv45:v=4∨v=5:=by
    have:=hbk.1
    simp only[versC,Bool.or_eq_true,beq_iff_eq] at this
    exact this
   have hkk:8≤kind∧kind≤11:=by simpa [qfws] using hbk.2
   have hx:=HR.out
   rw[q98d,if_neg (by rw[HB1.out];decide)] at hx
   obtain⟨⟨PP,Y⟩,hPP⟩:∃z,q7qx v kind ⟨s.data.toList,0⟩=z:=⟨_,rfl⟩
   rw[hPP] at hx
   simp only at hx
   have HX:=Lib.hid hx
   have hz:=q0qi (Cs.mk s.data.toList 0)
   obtain⟨z,hzz⟩:∃z,(Cs.mk s.data.toList 0).num 2=z:=⟨_,rfl⟩
   have NM:=fun cb W (h:RsAt W cb s ⟨s.data.toList,0⟩)=>qyb5 2 (by decide) (show s.size≤9223372036854775807 by have:=HM.out;omega) h
   have hnl:=Cs.num_len (Cs.mk s.data.toList 0) 2
   unfold q7qx at hPP
   rw[hzz] at NM hz hPP hnl
   obtain⟨z1,z2⟩:=z
   simp only at NM hz hPP hnl
   have NM:=fun cb W (h:RsAt W cb s ⟨s.data.toList,0⟩)=>(NM cb W h).mono fun e W' hh=>(⟨hh,show(z1:Int) < 65536 by omega⟩:_∧(z1:Int) < 65536)
   have RE:=fun cb W (h:RsAt W cb s z2)=>qlo7 v kind hv45 HK.out.1 HK.out.2 HM.out h
   have RF:=qnyk v kind z2
   have hpl:=Cs.props_len v kind z2
   obtain⟨⟨L,y3⟩,hrr⟩:∃r,z2.props v kind=r:=⟨_,rfl⟩
   rw[hrr] at RE hPP RF hpl
   simp only at RE hPP RF hpl
   have hyl:y3.r.length≤2000:=by
    have:=HM.out
    have e:s.data.toList.length=s.size:=(q4ad s).symm
    omega
   obtain⟨D0,hD0⟩:∃D,pkC (qP kind z1 [] [] []) adZ=D:=⟨_,rfl⟩
   have HD0:=Lib.hid hD0
   have HD1:=Lib.hid (show D0.size=25 by rw[←hD0];exact qwmp _ _)
   have HD2:=Lib.hid (show D0.all (·.oneCell')=true by rw[←hD0];exact qmz0 _ _)
   have HRF:=Lib.hid RF
   have HPP:=Lib.hid hPP
   have HYL:=Lib.hid hyl
   have HKK:=Lib.hid hkk
   replace NM:=Lib.hid NM
   replace RE:=Lib.hid RE
   clear hx hz hzz hrr hD0 RF HR HB1 VE hv45 KI hbk hnl hpl hyl hPP hkk
   go_wp2_with fail
   refine(qvbz s _).mono ?_
   rintro e W1 ⟨rfl,hc,hb1⟩
   have C1:=Lib.hid (show RsAt W1 wc.heap.size s ⟨s.data.toList,0⟩ from⟨0,Nat.zero_le _,hc,by simp⟩)
   have L1:=Lib.hid (qxh2 L0.out hb1)
   have R1:=Lib.hid ((hb1.block _ (lt_of_block R0.out)).trans R0.out)
   clear hc hb1
   go_wp2_with fail
   refine(NM.out _ _ C1.out).mono ?_
   rintro e W2 ⟨⟨rfl,hc,hg⟩,hz1⟩
   have c1:w.heap.size < wc.heap.size:=by rw[ZW.out];omega
   have hlt:=hc.lt
   have hbx:Below W2.heap.size W2 ((W2.alloc (.cells pkZ 29)).setRow W2.heap.size D0):=q8xz (qybm (w:=W2) (.cells pkZ 29)) (Nat.le_refl _) D0
   have S3:RqS w wc.heap.size s W2.heap.size (W2.heap.size+1) (qP kind z1 [] [] []) adZ z2 32 5 0 [] (.slice none 0 0) ((W2.alloc (.cells pkZ 29)).setRow W2.heap.size D0):=
    ⟨qxh2 (L1.out.grown hg L1.out.size (fun k e=>by have:=Option.some.inj e;omega)) hbx,(hbx.block _ (by have:=hg.size;have:=lt_of_block R1.out;omega)).trans ((hg.block _ (lt_of_block R1.out) (fun e=>by have:=Option.some.inj e;omega)).trans R1.out),
     by rw[HD0.out];exact setRow_heap _ _ _ D0 _ _ (heap_alloc_new W2 _),hc.below hbx,PL.nil,World.ownsRow_nil _ _ _ _,c1,hlt,Nat.lt_succ_self _,(fun g i e=>by cases e),(fun _ g i e=>by cases e),(by simp[World.setRow])⟩
   have S3:=Lib.hid S3
   clear hc hg hlt hbx C1 L1 R1
   go_wp2_with (first
    | (refine wpList_buildTo rfl 29 _ rfl (some _) rfl D0 (by rw[←HD0.out];kernel_rfl) ?_)
    | (refine wpList_store_row rfl _ _ _ rfl W2.heap.size D0 rfl rfl 29 _ (heap_alloc_new W2 _) (by rw[HD1.out];exact q5nr) (by rw[HZ.out,HD1.out]) HD2.out ?_))
   generalize W2.heap.size=B at *
   generalize (W2.alloc (.cells pkZ 29)).setRow _ D0=W3 at *
   refine(RE.out _ _ S3.out.cs).mono ?_
   rintro e W4 ⟨⟨A,cp,rfl,hlc,hcm,hpl,hfar⟩,hc,hg⟩
   have S4:=S3.out.call hc hg
   have hfar:∀g i,A=some ⟨g,i,none⟩→B < g:=fun g i e=>by have:=hfar g i e;have:=lt_of_block S3.out.pk;omega
   have sz:=(q99v W4 B 24 (.slice A L.length cp)).size
   have o:∀k,k≠B→(W4.setCell ⟨B,24,none⟩ (.slice A L.length cp)).heap[k]? = W4.heap[k]? := fun k hk=>heap_setCell_other W4 ⟨B,24,none⟩ k _ hk
   have hBW:=lt_of_block S4.pk
   have S5:∀t k,RqS w wc.heap.size s B W4.heap.size (qP kind z1 L [] []) (qA A cp none 0 none 0) y3 t k 0 [] (.slice none 0 0) (W4.setCell ⟨B,24,none⟩ (.slice A L.length cp)):=fun t k=>by
    have c1:=S4.c1
    have c2:=S4.c2
    exact⟨qo4g S4.low (by omega),(o _ (by omega)).trans S4.rs,qv6p S4.pk rfl,S4.cs.of_block (o _ (by omega)),hpl.kept sz (fun g i e _=>o g (by have:=hfar g i e;omega)),World.ownsRow_nil _ _ _ _,c1,c2,hBW,hfar,
     (fun hne g i e=>by
      obtain⟨g',i',e',hlt,_⟩:=hpl hne
      cases e.symm.trans e'
      exact hlt),sz⟩
   have S5:=Lib.hid S5
   have n24:W4.cell? ⟨B,24,none⟩=some (.slice none 0 0):=S4.cell 24
   have f24:=S4.fr 24
   have CP:=Lib.hid (And.intro hlc hcm)
   clear S4 hpl hfar sz o hBW hlc hcm hc hg S3 RE NM
   go_upto_block 0 with fail
   clear n24 f24
   generalize W4.setCell ⟨B,24,none⟩ (.slice A L.length cp)=W5 at *
   generalize W4.heap.size=H at *
   generalize wc.heap.size=cb at *
   go_cut [] (fun wx=>QeS w cb s B PP Y wx)
   case first=>
    have hm9:s.size≤9223372036854775807:=by have:=HM.out;omega
    have LF:=Lib.hid (fun y W (h:RsAt W cb s y)=>q5u4 hm9 h)
    have AK:=fun W=>qpfo kind W
    have hPP:=HPP.out
    have DONE:∀(fs cs:Option Addr) (fc cc:Nat) (l:List Fi) (c:List Int) (y:Cs) t k n xs val W,(qP kind z1 L l c,y)=(PP,Y)→l.length≤2000→c.length≤2000→(∀f∈l,f.topic.length≤65535)→
     (∀V,(∀g,H≤g→g < W.heap.size→V.heap[g]? = W.heap[g]?)→W.heap.size≤V.heap.size→CL V fs (fcs l)∧CL V cs (ics c))→
     RqS w cb s B H (qP kind z1 L l c) (qA A cp fs fc cs cc) y t k n xs val W→QeS w cb s B PP Y W:=by
     intro fs cs fc cc l c y t k n xs val W he hl hc ht hcl hS
     cases he
     refine⟨_,H,t,k,n,xs,val,hS,fun V hsz hV=>?_,⟨HRF.out.1,CP.out.1,CP.out.2,HRF.out.2,fun f hf=>Nat.le_trans (ht f hf) (by decide)⟩,⟨Nat.le_trans hc (by decide),Nat.le_trans hl (by decide),Nat.le_trans HRF.out.1 (by decide),Nat.zero_le _⟩⟩
     obtain⟨h1,h2⟩:=hcl V (fun g h1 h2=>hV g (by have:=hS.c3;omega) h2) hsz
     exact⟨fun e=>absurd rfl e,h2,h1,hS.ps.kept hsz (fun g i e hlt=>hV g (hS.pf g i e) hlt)⟩
    replace DONE:=Lib.hid DONE
    obtain⟨i0,hi,hz0,hz1,hz2⟩:=info_parts q4j3
    obtain⟨j0,hj,hw0,hw1,hw2⟩:=info_parts q5h3
    cases ha:qsfj kind with
    | true=>
     rw[ha] at AK
     rw[if_pos ha] at hPP
     have hk8:kind=8∨kind=10:=by simpa [qsfj] using ha
     have AP:=Lib.hid (fun(l:List Fi) (f:Fi) (A:Option Addr) (c m:Nat) (W:World) (ho:W.ownsRow H 32 5 (.slice A l.length c) l.length (fcs l)) (hE:W.heap[m]? = some (.cells (fiC f) 32 (0,0))) (hn:l.length≤2000) (hb:H≤W.heap.size)=>
      qzf1 (T:=27) Tryz.underlying27 hi hz0 hz1 hz2 rfl (by decide) ho hE (qxzo f) (by intro u hu;simp[fiC] at hu;rcases hu with rfl | rfl | rfl | rfl | rfl<;>rfl) (by omega) (by decide) hb)
     have FL:=Lib.hid (fun y W (h:RsAt W cb s y)=>q53h (v:=v) (kind:=kind) (show s.size≤70000 by have:=HM.out;omega) h)
     have TP:=Lib.hid (qt98 v kind y3.r.length y3)
     have FLN:=Lib.hid (q8jt (v:=v) (kind:=kind) y3.r.length y3)
     obtain⟨⟨F1,F2⟩,hF⟩:∃z,Cs.filts v kind y3.r.length y3=z:=⟨_,rfl⟩
     rw[hF] at hPP TP FLN
     simp only at hPP TP FLN
     replace AK:=Lib.hid AK
     have HF:=Lib.hid hF
     have HP2:=Lib.hid (show(qP kind z1 L F1 [],F2)=(PP,Y) from hPP)
     have HK8:=Lib.hid hk8
     clear hPP hF ha hk8 hi hz0 hz1 hz2 hj hw0 hw1 hw2 hm9 HPP HX
     have AT:∀(l:List Fi) (A2:Option Addr) (c:Nat) (W:World),W.ownsRow H 32 5 (.slice A2 l.length c) l.length (fcs l)→∀V:World,(∀g,H≤g→g < W.heap.size→V.heap[g]? = W.heap[g]?)→W.heap.size≤V.heap.size→CL V A2 (fcs l)∧CL V none (ics []):=fun l A2 c W ho V hV hsz=>by
      obtain⟨A',c',e,-,hC,hA⟩:=CL.owned ho ho.1
      cases e
      exact⟨hC.kept hsz (fun g i e hlt=>hV g (hA g i e) hlt),CL.nil⟩
     replace AT:=Lib.hid AT
     go_wp2_with fail
     go_loopg [] y3.r.length (fun gk wx=>∃(l:List Fi) (y:Cs) (A2:Option Addr) (c:Nat),(y.e≠0∨y.r.length≤gk)∧l++(Cs.filts v kind gk y).1=F1∧(Cs.filts v kind gk y).2=F2∧RqS w cb s B H (qP kind z1 L l []) (qA A cp A2 c none 0) y 32 5 l.length (fcs l) (.slice A2 l.length c) wx)
     case atStart=>exact⟨[],y3,none,0,.inr (Nat.le_refl _),by rw[HF.out];rfl,by rw[HF.out],S5.out _ _⟩
     case round=>
      obtain⟨l,y,A2,c,hg,hL,hY,hS⟩:=hrel
      have SK:=Lib.hid hS
      have k2:=RsAt.err hS.cs
      by_cases he:y.e=0
      ·rw[he] at k2
       have LFy:=LF.out y wr hS.cs
       by_cases hr:y.r=[]
       ·have hz:Cs.filts v kind gk y=([],y):=by
         cases gk with
         | zero=>rfl
         | succ n=>rw[Cs.filts,if_pos (.inr hr)]
        rw[hz] at hL hY
        have hL:l=F1:=by simpa using hL
        have hY:y=F2:=hY
        subst hL hY
        rw[hr] at LFy
        have LFy:=Lib.hid LFy
        clear hS hr hg hz he
        go_wp2_with fail
        refine(LFy.out).mono ?_
        rintro e W6 ⟨rfl,hc,hg⟩
        have S6:=Lib.hid (SK.out.call hc hg)
        clear hc hg k2
        go_wp2_with fail
        go_meet
        exact DONE.out A2 none c 0 l [] y _ _ _ _ _ _ HP2.out (by have:=FLN.out;have:=HYL.out;omega) (Nat.zero_le _) TP.out (AT.out l A2 c _ S6.out.own) S6.out
       ·have hlen:=List.length_pos_iff.2 hr
        obtain⟨m,rfl⟩:∃m,gk=m+1:=⟨gk - 1,by
         rcases hg with h | h
         ·exact absurd he h
         ·omega⟩
        have hfm:Cs.filts v kind (m+1) y=((y.filt v kind).1::(Cs.filts v kind m (y.filt v kind).2).1,(Cs.filts v kind m (y.filt v kind).2).2):=by
         rw[Cs.filts,if_neg (by simp[he,hr])]
        have hless:(y.filt v kind).2.e≠0∨(y.filt v kind).2.r.length≤m:=by
         by_cases hzz:(y.filt v kind).2.e=0
         ·have:=qvwn HK8.out hzz
          rcases hg with h | h
          ·exact absurd he h
          ·exact .inr (by omega)
         ·exact .inl hzz
        have FLy:=fun W (h:RsAt W cb s y)=>FL.out y W h
        rw[hfm] at hL hY
        simp only at hL hY
        obtain⟨⟨f,y2⟩,hf⟩:∃z,y.filt v kind=z:=⟨_,rfl⟩
        rw[hf] at hL hY hless FLy
        simp only at hL hY hless FLy
        have hL2:(l++[f])++(Cs.filts v kind m y2).1=F1:=by rw[←hL];simp
        have hll:l.length≤2000:=by
         have h1:=FLN.out
         have h2:=HYL.out
         rw[←hL2] at h1
         simp only[List.length_append,List.length_cons,List.length_nil] at h1
         omega
        have hfc:fcs l++(fiC f).toList=fcs (l++[f]):=by unfold fcs;rw[List.flatMap_append];rfl
        have HIN:=Lib.hid (show(y2.e≠0∨y2.r.length≤m)∧(l++[f])++(Cs.filts v kind m y2).1=F1∧(Cs.filts v kind m y2).2=F2∧l.length≤2000∧fcs l++(fiC f).toList=fcs (l++[f]) from⟨hless,hL2,hY,hll,hfc⟩)
        obtain⟨nr,hnr⟩:∃n,y.r.length=n:=⟨_,rfl⟩
        rw[hnr] at LFy hlen
        have q1:decide ((0:Int) < ((nr:Nat):Int))=true:=decide_eq_true (by omega)
        have q2:decide (0 < nr)=true:=decide_eq_true hlen
        clear hnr
        replace LFy:=Lib.hid LFy
        replace FLy:=Lib.hid FLy
        clear hS hr he hg hfm hless hL hY hf hL2 hll hfc hlen
        go_wp2_with fail
        refine(LFy.out).mono ?_
        rintro e W6 ⟨rfl,hc,hg⟩
        have S6:=Lib.hid (SK.out.call hc hg)
        clear hc hg k2
        go_wp2_with fail
        refine(AK.out _).mono ?_
        rintro e W7 ⟨rfl,rfl⟩
        go_upto_region 8 with fail
        refine qb94 (T:=RqT w cb s B H (qP kind z1 L l []) (qA A cp A2 c none 0) y y2 32 5 (.slice A2 l.length c) l.length (fcs l) (fcs (l++[f])) (fiC f) (qP kind z1 L (l++[f]) []) (fun g c'=>qA A cp (some ⟨g,0,none⟩) c' none 0)) (f:=f) (B:=B) (cb:=cb) (k:=l.length+1) (vA:=A2) (vn:=l.length) (vc:=c) (S6.out.below (Below.refl _ _).drew)
         (fun st n g c' W hst h=>by
          match st,hst,h with
          | 0,_,h=>exact h.cell 23
          | 1,_,h=>exact h.cell 23
          | 2,_,h=>exact h.1.cell 23
          | st+3,hst,_=>omega)
         (fun n g c' W h=>(FLy.out W h.cs).mono fun e W' hh=>⟨hh.1,h.call hh.2.1 hh.2.2⟩)
         (fun n g c' W h=>⟨h.below (qybm _),heap_alloc_new W _⟩)
         (fun n g c' W h=>by
          obtain⟨g',c2,w',hr,ho,hg⟩:=AP.out l f A2 c n W h.1.own h.2 HIN.out.2.2.2.1 h.1.h9
          rw[HIN.out.2.2.2.2] at ho
          exact⟨g',c2,w',hr,h.1.more ho hg⟩)
         (fun n g c' W h=>⟨h.cell 23,h.fr 23,h.put 23 _ (qp0f ..) rfl rfl⟩) ?_
        intro n g c' W8 h
        have S8:Hid (RqS w cb s B H (qP kind z1 L (l++[f]) []) (qA A cp (some ⟨g,0,none⟩) c' none 0) y2 32 5 (l++[f]).length (fcs (l++[f])) (.slice (some ⟨g,0,none⟩) (l++[f]).length c') W8):=Lib.hid (by
         rw[show(l++[f]).length=l.length+1 by simp]
         exact h)
        clear h S6 SK
        go_wp2_with fail
        go_roundg m
        case measure=>exact Nat.lt_succ_self m
        case rel=>exact⟨l++[f],y2,some ⟨g,0,none⟩,c',HIN.out.1,HIN.out.2.1,HIN.out.2.2.1,S8.out⟩
      ·have hz:Cs.filts v kind gk y=([],y):=by
        cases gk with
        | zero=>rfl
        | succ n=>rw[Cs.filts,if_pos (.inl he)]
       rw[hz] at hL hY
       have hL:l=F1:=by simpa using hL
       have hY:y=F2:=hY
       subst hL hY
       have q1:(((y.e:Nat):Int)==0)=false:=by simp;omega
       clear hS hg hz he
       go_wp2_with fail
       go_meet
       exact DONE.out A2 none c 0 l [] y _ _ _ _ _ _ HP2.out (by have:=FLN.out;have:=HYL.out;omega) (Nat.zero_le _) TP.out (AT.out l A2 c _ SK.out.own) SK.out
    | false=>
     rw[ha] at AK
     rw[if_neg (by rw[ha];decide)] at hPP
     have AP:=Lib.hid (fun(l:List Int) (z:Int) (A:Option Addr) (c m:Nat) (W:World) (ho:W.ownsRow H 3 1 (.slice A l.length c) l.length (ics l)) (hE:W.heap[m]? = some (.cells #[.int .i64 z] 3 (0,0))) (hn:l.length≤2000) (hb:H≤W.heap.size)=>
      qzf1 (T:=26) Tryz.underlying26 hj hw0 hw1 hw2 rfl (by decide) ho hE rfl (by intro u hu;simp at hu;subst hu;rfl) (by omega) (by decide) hb)
     have NM1:=Lib.hid (fun y W (h:RsAt W cb s y)=>qyb5 1 (by decide) hm9 h)
     have FLN:=Lib.hid (show y3.codes.1.length≤2000 by
      have:=HYL.out
      unfold Cs.codes
      split
      ·exact Nat.zero_le _
      ·simpa using this)
     obtain⟨⟨F1,F2⟩,hF⟩:∃z,y3.codes=z:=⟨_,rfl⟩
     rw[hF] at hPP FLN
     simp only at hPP FLN
     replace AK:=Lib.hid AK
     have HF:=Lib.hid hF
     have HP2:=Lib.hid (show(qP kind z1 L [] F1,F2)=(PP,Y) from hPP)
     clear hPP hF ha hi hz0 hz1 hz2 hj hw0 hw1 hw2 hm9 HPP HX HKK
     have AT:∀(l:List Int) (A2:Option Addr) (c:Nat) (W:World),W.ownsRow H 3 1 (.slice A2 l.length c) l.length (ics l)→∀V:World,(∀g,H≤g→g < W.heap.size→V.heap[g]? = W.heap[g]?)→W.heap.size≤V.heap.size→CL V none (fcs [])∧CL V A2 (ics l):=fun l A2 c W ho V hV hsz=>by
      obtain⟨A',c',e,-,hC,hA⟩:=CL.owned ho ho.1
      obtain⟨rfl,rfl⟩:A2=A'∧c=c':=by injection e with h1 h2 h3;exact⟨h1,h3⟩
      exact⟨CL.nil,hC.kept hsz (fun g i e hlt=>hV g (hA g i e) hlt)⟩
     replace AT:=Lib.hid AT
     go_wp2_with fail
     go_loopg [] y3.r.length (fun gk wx=>∃(l:List Int) (y:Cs) (A2:Option Addr) (c:Nat),gk=y.r.length∧l++y.codes.1=F1∧y.codes.2=F2∧RqS w cb s B H (qP kind z1 L [] l) (qA A cp none 0 A2 c) y 3 1 l.length (ics l) (.slice A2 l.length c) wx)
     case atStart=>exact⟨[],y3,none,0,rfl,by rw[HF.out];rfl,by rw[HF.out],S5.out _ _⟩
     case round=>
      obtain⟨l,y,A2,c,rfl,hL,hY,hS⟩:=hrel
      have SK:=Lib.hid hS
      have k2:=RsAt.err hS.cs
      by_cases he:y.e=0
      ·rw[he] at k2
       have LFy:=LF.out y wr hS.cs
       cases hr:y.r with
       | nil=>
        rw[qsof (.inr hr)] at hL hY
        have hL:l=F1:=by simpa using hL
        have hY:y=F2:=hY
        subst hL hY
        rw[hr] at LFy
        have LFy:=Lib.hid LFy
        clear hS hr he
        go_wp2_with fail
        refine(LFy.out).mono ?_
        rintro e W6 ⟨rfl,hc,hg⟩
        have S6:=Lib.hid (SK.out.call hc hg)
        clear hc hg k2
        go_wp2_with fail
        go_meet
        exact DONE.out none A2 0 c [] l y _ _ _ _ _ _ HP2.out (Nat.zero_le _) FLN.out (fun f hf=>nomatch hf) (AT.out l A2 c _ S6.out.own) S6.out
       | cons b r=>
        rw[qdvr he hr] at hL hY
        simp only at hL hY
        have NMy:=fun W (h:RsAt W cb s y)=>NM1.out y W h
        rw[quxj he hr] at NMy
        simp only at NMy
        have hL2:(l++[((b.toNat:Nat):Int)])++(Cs.mk r 0).codes.1=F1:=by rw[←hL];simp
        have hll:l.length≤2000:=by
         have h1:=FLN.out
         rw[←hL2] at h1
         simp only[List.length_append,List.length_cons,List.length_nil] at h1
         omega
        have hfc:ics l++(#[.int .i64 ((b.toNat:Nat):Int)]:Array Value).toList=ics (l++[((b.toNat:Nat):Int)]):=by simp[ics]
        have hbz:(0:Int)≤((b.toNat:Nat):Int)∧((b.toNat:Nat):Int) < 65536:=by have:=b.toNat_lt;omega
        obtain⟨n9,hn9⟩:∃n,b.toNat=n:=⟨_,rfl⟩
        rw[hn9] at NMy hL2 hfc hbz
        have HIN:=Lib.hid (show(l++[((n9:Nat):Int)])++(Cs.mk r 0).codes.1=F1∧(Cs.mk r 0).codes.2=F2∧l.length≤2000∧ics l++(#[.int .i64 ((n9:Nat):Int)]:Array Value).toList=ics (l++[((n9:Nat):Int)])∧((0:Int)≤((n9:Nat):Int)∧((n9:Nat):Int) < 65536) from⟨hL2,hY,hll,hfc,hbz⟩)
        have HRL:=Lib.hid (show r.length < y.r.length by rw[hr];simp)
        obtain⟨nr,hnr⟩:∃n,y.r.length=n:=⟨_,rfl⟩
        have hlen:0 < nr:=by rw[←hnr,hr];simp
        rw[hnr] at LFy
        have q1:decide ((0:Int) < ((nr:Nat):Int))=true:=decide_eq_true (by omega)
        have q2:decide (0 < nr)=true:=decide_eq_true hlen
        clear hnr hlen
        replace LFy:=Lib.hid LFy
        replace NMy:=Lib.hid NMy
        clear hS hr he hL hY hL2 hll hfc hbz hn9
        go_wp2_with fail
        refine(LFy.out).mono ?_
        rintro e W6 ⟨rfl,hc,hg⟩
        have S6:=Lib.hid (SK.out.call hc hg)
        clear hc hg k2
        go_wp2_with fail
        refine(AK.out _).mono ?_
        rintro e W7 ⟨rfl,rfl⟩
        go_upto_region 9 with fail
        refine qh1o0 (T:=RqT w cb s B H (qP kind z1 L [] l) (qA A cp none 0 A2 c) y ⟨r,0⟩ 3 1 (.slice A2 l.length c) l.length (ics l) (ics (l++[((n9:Nat):Int)])) #[.int .i64 ((n9:Nat):Int)] (qP kind z1 L [] (l++[((n9:Nat):Int)])) (fun g c'=>qA A cp none 0 (some ⟨g,0,none⟩) c')) (z:=((n9:Nat):Int)) (B:=B) (cb:=cb) (k:=l.length+1) (vA:=A2) (vn:=l.length) (vc:=c) (S6.out.below (Below.refl _ _).drew) HIN.out.2.2.2.2
         (fun st n g c' W hst h=>by
          match st,hst,h with
          | 0,_,h=>exact h.cell 22
          | 1,_,h=>exact h.cell 22
          | 2,_,h=>exact h.1.cell 22
          | st+3,hst,_=>omega)
         (fun n g c' W h=>(NMy.out W h.cs).mono fun e W' hh=>⟨hh.1,h.call hh.2.1 hh.2.2⟩)
         (fun n g c' W h=>⟨h.below (qybm _),heap_alloc_new W _⟩)
         (fun n g c' W h=>by
          obtain⟨g',c2,w',hr,ho,hg⟩:=AP.out l _ A2 c n W h.1.own h.2 HIN.out.2.2.1 h.1.h9
          rw[HIN.out.2.2.2.1] at ho
          exact⟨g',c2,w',hr,h.1.more ho hg⟩)
         (fun n g c' W h=>⟨h.cell 22,h.fr 22,h.put 22 _ (qvkj ..) rfl rfl⟩) ?_
        intro n g c' W8 h
        have S8:Hid (RqS w cb s B H (qP kind z1 L [] (l++[((n9:Nat):Int)])) (qA A cp none 0 (some ⟨g,0,none⟩) c') ⟨r,0⟩ 3 1 (l++[((n9:Nat):Int)]).length (ics (l++[((n9:Nat):Int)])) (.slice (some ⟨g,0,none⟩) (l++[((n9:Nat):Int)]).length c') W8):=Lib.hid (by
         rw[show(l++[((n9:Nat):Int)]).length=l.length+1 by simp]
         exact h)
        clear h S6 SK
        go_wp2_with fail
        go_roundg r.length
        case measure=>exact HRL.out
        case rel=>exact⟨l++[((n9:Nat):Int)],⟨r,0⟩,some ⟨g,0,none⟩,c',rfl,HIN.out.1,HIN.out.2.1,S8.out⟩
      ·rw[qsof (.inl he)] at hL hY
       have hL:l=F1:=by simpa using hL
       have hY:y=F2:=hY
       subst hL hY
       have q1:(((y.e:Nat):Int)==0)=false:=by simp;omega
       clear hS he
       go_wp2_with fail
       go_meet
       exact DONE.out none A2 0 c [] l y _ _ _ _ _ _ HP2.out (Nat.zero_le _) FLN.out (fun f hf=>nomatch hf) (AT.out l A2 c _ SK.out.own) SK.out
   case rest=>
    obtain⟨a,H1,t1,k1,n1,xs1,val1,hS,hat,fp,sp⟩:=hcut
    have VA:=fun W (h:PkAt W PP a)=>q0yf v PP a W h sp fp
    have hx:=HX.out
    obtain⟨f,hf⟩:∃f,q3m2 v PP=f:=⟨_,rfl⟩
    rw[hf] at VA hx
    have DN:=fun W (h:RsAt W cb s Y)=>qeyg (p:=PP) (a:=a) f (show s.size≤9223372036854775807 by have:=HM.out;omega) h
    obtain⟨d,hd⟩:∃d,qveh Y f=d:=⟨_,rfl⟩
    rw[hd] at hx DN
    have hE1:=qwmp PP a
    have hE2:=qmz0 PP a
    have hDD1:(if d.e≠0 then pkZ else pkC PP a).size=25:=by split;exact qbwp;exact hE1
    have hDD2:(if d.e≠0 then pkZ else pkC PP a).all (·.oneCell')=true:=by split;exact qmz0 Pk.zero adZ;exact hE2
    have S9:∀D,QlS w cb s B PP a Y D wc (false,false) wc.drew:=fun D=>⟨hS.low.drew,hS.rs,hS.pk,fun _=>hS.cs.below (Below.refl _ _).drew,fun g _ _=>rfl,Nat.le_refl _,hS.c1,hS.c2⟩
    have RT:∀W,Below w.heap.size w W→PkAt W PP a→qeic w R (.returned (.tuple #[.agg (if d.e≠0 then pkZ else pkC PP a),.int .i64 ((d.e:Nat):Int)])) W:=fun W hb h1=>by
     rw[←hx]
     by_cases h0:d.e≠0
     ·simp only[if_pos h0]
      exact⟨adZ,rfl,qa3p _,hb⟩
     ·simp only[if_neg h0]
      exact⟨a,by rw[show d.e=0 by simpa using h0],h1,hb⟩
    generalize (if d.e≠0 then pkZ else pkC PP a)=D at *
    replace S9:=Lib.hid (S9 D)
    have HAT:=Lib.hid (fun u W (h:QlS w cb s B PP a Y D wc u W)=>hat W h.sz h.kp)
    replace RT:=Lib.hid RT
    replace VA:=Lib.hid VA
    replace DN:=Lib.hid DN
    have HDD1:=Lib.hid hDD1
    have HDD2:=Lib.hid hDD2
    have HE1:=Lib.hid hE1
    clear hS hat fp sp hx hf hd hE1 hE2 hDD1 hDD2 HX HPP S5 CP HRF HYL HKK HM
    go_upto_region 10 with fail
    refine q99o (S:=fun u W=>QlS w cb s B PP a Y D wc u W) (B:=B) (R:=w.heap.size) (cb:=cb) (v:=v) (k:=(f:Nat)) (z:=((d.e:Nat):Int)) (C:=pkC PP a) (D:=D) S9.out HE1.out HDD1.out HDD2.out (fun x W h=>h.pk) (fun x W h h2=>by have:=h.rs;rw[h2] at this;exact this)
     (fun x W h=>(VA.out W (HAT.out _ W h)).mono fun e W' hh=>⟨hh.1,h.below hh.2⟩)
     (fun x W h h1=>(DN.out W (h.cs h1)).mono fun e W' hh=>⟨hh.1,h.call hh.2 (fun e=>by cases e)⟩)
     (fun x W h h1 h2=>by
      obtain⟨x1,x2⟩:=x
      simp only at h1 h2
      subst h1 h2
      exact h.store) ?_
    intro W h
    have GR:=Lib.hid (show W.heap[w.heap.size]? = some (.cells D 29 (0,0)) from h.rs)
    have RTV:=Lib.hid (RT.out W h.low (HAT.out _ W h))
    clear h S9 VA DN RT
    go_wp2_with fail
    exact q8iy (cs:=D) rfl rfl rfl rfl Tryz.underlying29 rfl (by rw[HDD1.out];exact q5nr) GR.out RTV.out
theorem qd0x(v:Int)(p q:Pk):(!qsfj p.kind || q.kind != IntKind.i64.wrap (p.kind+1) || ((q3m2 v p:Nat):Int) != 0 || ((q3m2 v q:Nat):Int) != 0 || p.id != q.id)=!(qsfj p.kind&&q.kind==p.kind+1&&decide (q3m2 v p=0)&&decide (q3m2 v q=0)&&p.id==q.id):=by
 cases h:qsfj p.kind with
 | false=>rfl
 | true=>
  have hk:p.kind=8∨p.kind=10:=by
   unfold qsfj at h
   simpa using h
  have h1:IntKind.i64.wrap (p.kind+1)=p.kind+1:=by rw[IntKind.wrap_i64];omega
  have h2:∀n:Nat,(((n:Nat):Int) != 0)=!decide (n=0):=fun n=>by
   rw[Bool.eq_iff_iff];simp
  rw[h1,h2,h2]
  show(false || !(q.kind==p.kind+1) || _ || _ || !(p.id==q.id))=_
  generalize (q.kind==p.kind+1)=a
  generalize decide (q3m2 v p=0)=b
  generalize decide (q3m2 v q=0)=c
  generalize (p.id==q.id)=d
  cases a<;>cases b<;>cases c<;>cases d<;>rfl
theorem qn5t(v:Int)(p q:Pk)(a b:Ad)(w:World)(hp:PkAt w p a)(hq:PkAt w q b)(sp:q21o p)(sq:q21o q)(fp:RqP p a)(fq:RqP q b) :
 Calls Tryz.prog 22 #[.int .i64 v,.agg (pkC p a),.agg (pkC q b)] w fun e w'=>e = .returned (.bool (qoit v p q))∧Below w.heap.size w w':=by
 have S0:=Lib.hid (AnB.made hp hq)
 have HC:=Lib.hid (qwmp p a)
 have HD:=Lib.hid (qwmp q b)
 have AS:=Lib.hid (fun W (h:AnB w p q a b W)=>(qpfo p.kind W).mono fun e W' (hh:_∧W=W')=>(⟨hh.1,hh.2▸h⟩:_∧AnB w p q a b W'))
 have VP:=fun W (h:AnB w p q a b W)=>(q0yf v p a W h.pat sp fp).mono fun e W' hh=>(⟨hh.1,h.call hh.2⟩:_∧AnB w p q a b W')
 have VQ:=fun W (h:AnB w p q a b W)=>(q0yf v q b W h.qat sq fq).mono fun e W' hh=>(⟨hh.1,h.call hh.2⟩:_∧AnB w p q a b W')
 have K:=Lib.hid (fun W (h:AnB w p q a b W) (j:Nat)=>cell_of_row _ _ j _ _ _ h.one)
 have L:=Lib.hid (fun W (h:AnB w p q a b W) (j:Nat)=>cell_of_row _ _ j _ _ _ h.two)
 have E:=qd0x v p q
 obtain⟨g,hg⟩:∃g,(qsfj p.kind&&q.kind==p.kind+1&&decide (q3m2 v p=0)&&decide (q3m2 v q=0)&&p.id==q.id)=g:=⟨_,rfl⟩
 have hR:qoit v p q=(g&&(q.kind==11&&v==4 || q.codes.length==p.filters.length)):=by unfold qoit;rw[hg]
 rw[hR]
 replace E:=Lib.hid (E.trans (congrArg _ hg))
 generalize q3m2 v p=ep at *
 generalize q3m2 v q=eq at *
 replace VP:=Lib.hid VP
 replace VQ:=Lib.hid VQ
 have hl:(((q.codes.length:Nat):Int)==((p.filters.length:Nat):Int))=(q.codes.length==p.filters.length):=by
  rw[Bool.eq_iff_iff];simp only[beq_iff_eq];omega
 have HL:=Lib.hid hl
 obtain⟨x,hx⟩:∃x,(q.codes.length==p.filters.length)=x:=⟨_,rfl⟩
 rw[hx] at HL ⊢
 obtain⟨y,hy⟩:∃y,(q.kind==11&&v==4)=y:=⟨_,rfl⟩
 rw[hy]
 have HY:=Lib.hid hy
 clear hp hq sp sq fp fq hg hR hl hx hy
 go_enter Tryz.func22,Tryz.ntmps22
 go_upto_region 1 with fail
 refine qqxm (S:=AnB w p q a b) (B1:=w.heap.size) (B2:=w.heap.size+1) S0.out HC.out HD.out rfl (fun W h=>h.one) (fun W h=>h.two) (fun W h=>K.out W h 0) (fun W h=>K.out W h 4) (fun W h=>L.out W h 0) (fun W h=>L.out W h 4) AS.out VP.out VQ.out ?_
 intro r W hr h
 rw[E.out] at hr
 subst hr
 have S1:=Lib.hid h
 clear h S0 E
 intros
 cases g with
 | false=>
  have LO:=Lib.hid S1.out.low
  go_wp2_with fail
  go_ret
  exact⟨rfl,LO.out⟩
 | true=>
  go_upto_region 3 with fail
  refine qkpe (S:=AnB w p q a b) (B1:=w.heap.size) (B2:=w.heap.size+1) S1.out (fun W h=>L.out W h 0) ?_
  intro r W2 hr h
  rw[HY.out] at hr
  subst hr
  have S2:=Lib.hid h
  clear h S1
  intros
  cases y with
  | true=>
   have LO:=Lib.hid S2.out.low
   go_wp2_with fail
   go_ret
   exact⟨rfl,LO.out⟩
  | false=>
   go_upto_region 5 with fail
   refine q7so (S:=AnB w p q a b) (B1:=w.heap.size) (B2:=w.heap.size+1) S2.out HL.out (fun W h=>K.out W h 23) (fun W h=>L.out W h 22) ?_
   intro W3 h
   have LO:=Lib.hid h.low
   clear h
   go_wp2_with fail
   go_ret
   exact⟨rfl,LO.out⟩
theorem qd2j{l:List Pr}{n:Nat}(h:qymj l≤n):∀x∈l,x.text.length≤n:=by
 induction l with
 | nil=>intro x hx;cases hx
 | cons y l ih=>
  intro x hx
  have e:qymj (y::l)=y.text.length+y.value.length+qymj l:=by simp[qymj]
  rw[e] at h
  rcases List.mem_cons.1 hx with rfl | hx
  ·omega
  ·exact ih (by omega) x hx
theorem qui3{l:List Fi}{n:Nat}(h:qnlp l≤n):∀x∈l,x.topic.length≤n:=by
 induction l with
 | nil=>intro x hx;cases hx
 | cons y l ih=>
  intro x hx
  have e:qnlp (y::l)=y.topic.length+qnlp l:=by simp[qnlp]
  rw[e] at h
  rcases List.mem_cons.1 hx with rfl | hx
  ·omega
  ·exact ih (by omega) x hx
theorem qlul{p:Pk}{a:Ad}(h:qa3g p=true)(ca:p.props.length≤a.pc)(cm:a.pc≤9223372036854775807):RqP p a:=by
 obtain⟨_,_,h3,_⟩:=q2qrt h
 unfold qa3g q2y5 q3em at h
 simp only[Bool.and_eq_true,decide_eq_true_eq] at h
 exact⟨h3,ca,cm,fun x hx=>Nat.le_trans (qd2j h.1.1.1.1.2 x hx) (by decide),fun f hf=>Nat.le_trans (qui3 (n:=140000) (by have:=h.2;omega) f hf) (by decide)⟩
theorem qfue{p:Pk}(h:qa3g p=true):q21o p:=by
 obtain⟨h1,h2,h3,h4⟩:=q2qrt h
 exact⟨by omega,by omega,by omega,by omega⟩
structure SqS(w:World)(p q:Pk)(a b:Ad)(P:Pk)(b1 b2:Nat)(a1 a2:Ad)(W:World):Prop where
 bx:AnB w p q a b W
 c:W.heap[b1]? = some (.cells (pkC P a1) 29 (0,0))
 d:W.heap[b2]? = some (.cells (pkC P a2) 29 (0,0))
 ac:PkAt W P a1
 ad:PkAt W P a2
theorem SqS.below{w W W':World}{p q P:Pk}{a b a1 a2:Ad}{b1 b2:Nat}(h:SqS w p q a b P b1 b2 a1 a2 W)(hb:Below W.heap.size W W'):SqS w p q a b P b1 b2 a1 a2 W':=
 ⟨h.bx.call hb,(hb.block _ (lt_of_block h.c)).trans h.c,(hb.block _ (lt_of_block h.d)).trans h.d,h.ac.below hb,h.ad.below hb⟩
theorem qc3z(v k:Int)(p q:Pk)(a b:Ad)(s:ByteArray)(w:World)(hp:PkAt w p a)(hq:PkAt w q b)(okp:PkOk p)(okq:PkOk q)(h:qa3g p=false∨(qa3g p=true∧qa3g q=false)∨(qa3g p=true∧qa3g q=true∧2000 < s.size)) :
 Calls Tryz.prog 4 #[.int .i64 v,pkV p a,pkV q b,.int .i64 k,.string s] w fun e w'=>e = .returned (.bool true)∧Below w.heap.size w w':=by
 have S0:=Lib.hid (AnB.made hp hq)
 have LP:=fun W (h:AnB w p q a b W)=>q1dl p a W h.pat okp
 have LQ:=fun W (h:AnB w p q a b W)=>q1dl q b W h.qat okq
 have C1:=Lib.hid (qwmp p a)
 have C2:=Lib.hid (qwmp q b)
 clear hp hq okp okq
 unfold pkV at *
 rcases h with hl | ⟨hl,hm⟩ | ⟨hl,hm,h2⟩
 ·rw[hl] at LP
  have LP:=Lib.hid LP
  clear hl
  go_enter Tryz.func4,Tryz.ntmps4
  go_wp2_with fail
  refine(qv1l _).mono ?_
  rintro e W ⟨rfl,hb⟩
  have S1:=Lib.hid (S0.out.call hb)
  clear hb
  go_wp2_with (refine wpList_load_row rfl _ _ rfl w.heap.size rfl 29 _ (0,0) _ S1.out.one Tryz.underlying29 rfl (by rw[C1.out];exact q5nr) ?_)
  refine(LP.out _ S1.out).mono ?_
  rintro e W2 ⟨rfl,hb⟩
  have L2:=Lib.hid (qxh2 S1.out.low hb)
  clear hb
  go_wp2_with fail
  go_ret
  exact⟨rfl,L2.out⟩
 ·rw[hl] at LP
  rw[hm] at LQ
  have LP:=Lib.hid LP
  have LQ:=Lib.hid LQ
  clear hl hm
  go_enter Tryz.func4,Tryz.ntmps4
  go_wp2_with fail
  refine(qv1l _).mono ?_
  rintro e W ⟨rfl,hb⟩
  have S1:=Lib.hid (S0.out.call hb)
  clear hb
  go_wp2_with (refine wpList_load_row rfl _ _ rfl w.heap.size rfl 29 _ (0,0) _ S1.out.one Tryz.underlying29 rfl (by rw[C1.out];exact q5nr) ?_)
  refine(LP.out _ S1.out).mono ?_
  rintro e W2 ⟨rfl,hb⟩
  have S2:=Lib.hid (S1.out.call hb)
  clear hb S1
  go_wp2_with (refine q2a5 rfl _ _ rfl (w.heap.size+1) rfl 29 _ (0,0) _ S2.out.two Tryz.underlying29 rfl (by rw[C2.out];exact q5nr) ?_)
  refine(LQ.out _ S2.out).mono ?_
  rintro e W3 ⟨rfl,hb⟩
  have L2:=Lib.hid (qxh2 S2.out.low hb)
  clear hb
  go_wp2_with fail
  go_ret
  exact⟨rfl,L2.out⟩
 ·rw[hl] at LP
  rw[hm] at LQ
  have LP:=Lib.hid LP
  have LQ:=Lib.hid LQ
  have hd:decide ((2000:Int) < (s.size:Int))=true:=decide_eq_true (by omega)
  clear hl hm h2
  go_enter Tryz.func4,Tryz.ntmps4
  go_wp2_with fail
  refine(qv1l _).mono ?_
  rintro e W ⟨rfl,hb⟩
  have S1:=Lib.hid (S0.out.call hb)
  clear hb
  go_wp2_with (refine wpList_load_row rfl _ _ rfl w.heap.size rfl 29 _ (0,0) _ S1.out.one Tryz.underlying29 rfl (by rw[C1.out];exact q5nr) ?_)
  refine(LP.out _ S1.out).mono ?_
  rintro e W2 ⟨rfl,hb⟩
  have S2:=Lib.hid (S1.out.call hb)
  clear hb S1
  go_wp2_with (refine q2a5 rfl _ _ rfl (w.heap.size+1) rfl 29 _ (0,0) _ S2.out.two Tryz.underlying29 rfl (by rw[C2.out];exact q5nr) ?_)
  refine(LQ.out _ S2.out).mono ?_
  rintro e W3 ⟨rfl,hb⟩
  have L2:=Lib.hid (qxh2 S2.out.low hb)
  clear hb
  go_wp2_with fail
  go_ret
  exact⟨rfl,L2.out⟩
theorem qc3e(v k:Int)(p:Pk)(a:Ad)(q:Pk)(b:Ad)(s:ByteArray)(w:World)(hp:PkAt w p a)(okp:PkOk p)(cap:PkCap p a)(cmp:a.pc≤9223372036854775807∧a.wc≤9223372036854775807)(hq:PkAt w q b)(okq:PkOk q)(caq:PkCap q b)(cmq:b.pc≤9223372036854775807∧b.wc≤9223372036854775807)
 (hk:-9223372036854775808≤k∧k≤9223372036854775807) (hs:s.size≤9223372036854775807) :
 Calls Tryz.prog 4 #[.int .i64 v,pkV p a,pkV q b,.int .i64 k,.string s] w fun e w'=>e = .returned (.bool true)∧Below w.heap.size w w':=by
 by_cases hE:qa3g p=false∨(qa3g p=true∧qa3g q=false)∨(qa3g p=true∧qa3g q=true∧2000 < s.size)
 ·exact qc3z v k p q a b s w hp hq okp okq hE
 obtain⟨hlp,hlq,h20⟩:qa3g p=true∧qa3g q=true∧s.size≤2000:=by
  cases h1:qa3g p<;>cases h2:qa3g q<;>simp[h1,h2] at hE ⊢
  exact hE
 have S0:=Lib.hid (AnB.made hp hq)
 have LP:=fun W (h:AnB w p q a b W)=>q1dl p a W h.pat okp
 have LQ:=fun W (h:AnB w p q a b W)=>q1dl q b W h.qat okq
 rw[hlp] at LP
 rw[hlq] at LQ
 have C1:=Lib.hid (qwmp p a)
 have C2:=Lib.hid (qwmp q b)
 have HZ:=Lib.hid qbwp
 have hzv:=qrai
 have hne:¬pkZ=#[]:=by intro h;have:=qbwp;rw[h] at this;cases this
 have hd:decide ((2000:Int) < (s.size:Int))=false:=decide_eq_false (by omega)
 have sp:=qfue hlp
 have sq:=qfue hlq
 have fp:=qlul hlp cap.pc cmp.1
 have fq:=qlul hlq caq.pc cmq.1
 have LK:=q2qrt hlp
 have OW:=fun W (h:AnB w p q a b W)=>qzxl p a W h.pat (by omega) (by omega) (by omega) (by omega)
 have BO:=fun(c:Ad) W (h:PkAt W p c) (hc:p.props.length≤c.pc∧p.wProps.length≤c.wc)=>q7zk v p c W h sp okp hc.1
 have RB:=fun W (h:AnB w p q a b W)=>qyfq v p a W h.pat sp fp
 have VA:=fun W (h:AnB w p q a b W)=>qeuk v p a W h.pat sp okp cap.pc
 have RV:=fun W (h:AnB w p q a b W)=>q0yf v p a W h.pat sp fp
 have AN:=fun W (h:AnB w p q a b W)=>qy40 v p q a b W h.pat h.qat sp sq okp okq cap.pc caq.pc
 have RA:=fun W (h:AnB w p q a b W)=>qn5t v p q a b W h.pat h.qat sp sq fp fq
 have RD:=fun W=>qmor v k s W hk.1 hk.2 (by omega) (qfe2 (by rw[←q4ad];omega))
 have RR:=fun W=>qvf5 v k s W hk.1 hk.2 h20
 obtain⟨R,hR⟩:∃R,q98d v k s.data.toList=R:=⟨_,rfl⟩
 rw[hR] at RD RR
 obtain⟨A,hA⟩:∃A,qktk v p=A:=⟨_,rfl⟩
 rw[hA] at RB BO
 have OP:=Lib.hid (fun(f:Fi) W=>q3gr f W)
 have RO:=Lib.hid (fun(f:Fi) W=>qy2j f W)
 have HNL:=Lib.hid (show p.filters.length≤60 from LK.2.1)
 obtain⟨n,hnn⟩:∃n,p.filters.length=n:=⟨_,rfl⟩
 rw[hnn] at HNL
 have HN:=Lib.hid hnn
 replace OW:=Lib.hid OW
 replace BO:=Lib.hid BO
 replace RB:=Lib.hid RB
 replace VA:=Lib.hid VA
 replace RV:=Lib.hid RV
 replace AN:=Lib.hid AN
 replace RA:=Lib.hid RA
 replace RD:=Lib.hid RD
 replace RR:=Lib.hid RR
 replace LP:=Lib.hid LP
 replace LQ:=Lib.hid LQ
 generalize q3m2 v p=E at *
 generalize qoit v p q=t at *
 clear hs h20 hR hA LK sp fp sq fq cap caq cmp cmq okp okq hp hq hk hE hlp hlq hnn
 unfold pkV at *
 go_enter Tryz.func4,Tryz.ntmps4
 go_wp2_with fail
 refine(qv1l _).mono ?_
 rintro e W ⟨rfl,hb⟩
 have S1:=Lib.hid (S0.out.call hb)
 clear hb
 go_wp2_with (refine wpList_load_row rfl _ _ rfl w.heap.size rfl 29 _ (0,0) _ S1.out.one Tryz.underlying29 rfl (by rw[C1.out];exact q5nr) ?_)
 refine(LP.out _ S1.out).mono ?_
 rintro e W2 ⟨rfl,hb⟩
 have S2:=Lib.hid (S1.out.call hb)
 clear hb S1
 go_wp2_with (refine q2a5 rfl _ _ rfl (w.heap.size+1) rfl 29 _ (0,0) _ S2.out.two Tryz.underlying29 rfl (by rw[C2.out];exact q5nr) ?_)
 refine(LQ.out _ S2.out).mono ?_
 rintro e W3 ⟨rfl,hb⟩
 have S3:=Lib.hid (S2.out.call hb)
 clear hb S2 LP LQ S0
 go_wp2_with fail
 go_loopg [11] n (fun gk s11 wx=>∃j:Nat,j≤n∧gk=n - j∧s11 = .int .i64 (j:Int)∧AnB w p q a b wx)
 case atStart=>exact⟨0,Nat.zero_le _,rfl,rfl,S3.out⟩
 case round=>
  obtain⟨j,hj,rfl,rfl,hS⟩:=hrel
  clear S3
  have SK:=Lib.hid hS
  have k23:wr.cell? ⟨w.heap.size,23,none⟩=some (.slice a.fs n a.fc):=by rw[←HN.out];exact cell_of_row _ _ 23 _ _ _ hS.one
  by_cases hlt:j < n
  ·have hjl:j < p.filters.length:=by rw[HN.out];exact hlt
   obtain⟨f,hpf⟩:∃f,p.filters[j]? = some f:=⟨_,List.getElem?_eq_getElem hjl⟩
   obtain⟨ga,ia,hga,-,-,-,-,-,-⟩:=hS.pat.fs.fi hpf
   have HCE:=Lib.hid (fun W (h:AnB w p q a b W)=>by
    obtain⟨ga',ia',e,-,b0,b1,b2,b3,b4⟩:=h.pat.fs.fi hpf
    rw[hga] at e
    obtain⟨rfl,rfl⟩:ga'=ga∧ia'=ia:=by cases e;exact⟨rfl,rfl⟩
    exact(⟨b0,b1,b2,b3,b4⟩:W.cell? ⟨ga',ia'+j*5,none⟩=some (.string (bs f.topic))∧W.cell? ⟨ga',ia'+j*5+1,none⟩=some (.int .i64 f.qos)∧W.cell? ⟨ga',ia'+j*5+2,none⟩=some (.bool f.noLocal)∧W.cell? ⟨ga',ia'+j*5+3,none⟩=some (.bool f.asPub)∧W.cell? ⟨ga',ia'+j*5+4,none⟩=some (.int .i64 f.handling)))
   have hn23:Hid (∀W,AnB w p q a b W→W.cell? ⟨w.heap.size,23,none⟩=some (.slice (some ⟨ga,ia,none⟩) n a.fc)):=Lib.hid (fun W h=>by rw[←hga,←HN.out];exact cell_of_row _ _ 23 _ _ _ h.one)
   have L:=Lib.hid hlt
   have gg:(j:Int) < (n:Int):=by omega
   clear hjl hpf hga hS hlt hj
   go_upto_region 8 with fail
   refine qg8r (S:=AnB w p q a b) (b:=w.heap.size) (f:=f) (m:=((qang f:Nat):Int)) (j:=j) (nf:=n) (SK.out.call (Below.refl _ _).drew) hn23.out gg (fun W h=>(HCE.out W h).1) (fun W h=>(HCE.out W h).2.1) (fun W h=>(HCE.out W h).2.2.1) (fun W h=>(HCE.out W h).2.2.2.1) (fun W h=>(HCE.out W h).2.2.2.2) (fun W h=>(OP.out f W).mono fun e W' hh=>⟨hh.1,h.call hh.2⟩) (fun W h=>(RO.out f W).mono fun e W' hh=>⟨hh.1,h.call hh.2⟩) ?_
   intro W4 h
   have S4:=Lib.hid h
   clear h SK HCE hn23 k23
   go_wp2_with fail
   go_roundg (n - (j+1))
   case measure=>have:=L.out;omega
   case rel=>exact⟨j+1,by have:=L.out;omega,rfl,congrArg _ (by have:=HNL.out;have:=L.out;unfold wrap64;omega),S4.out⟩
  ·obtain rfl:j=n:=by omega
   clear hS hlt hj
   go_wp2_with (refine wpList_load_row rfl _ _ rfl w.heap.size rfl 29 _ (0,0) _ SK.out.one Tryz.underlying29 rfl (by rw[C1.out];exact q5nr) ?_)
   refine(OW.out _ SK.out).mono ?_
   rintro e W3 ⟨c,rfl,hat,hcb,hb⟩
   have S3:=Lib.hid (SK.out.call hb)
   have BB:=Lib.hid (BO.out c W3 hat hcb)
   clear hb hat hcb BO k23
   go_wp2_with fail
   refine(BB.out).mono ?_
   rintro e W4 ⟨rfl,hb⟩
   have S4:=Lib.hid (S3.out.call hb)
   clear hb S3 BB
   go_wp2_with (refine wpList_load_row rfl _ _ rfl w.heap.size rfl 29 _ (0,0) _ S4.out.one Tryz.underlying29 rfl (by rw[C1.out];exact q5nr) ?_)
   refine(RB.out _ S4.out).mono ?_
   rintro e W5 ⟨rfl,hb⟩
   have S5:=Lib.hid (S4.out.call hb)
   clear hb S4 RB
   go_wp2_with fail
   refine(RD.out _).mono ?_
   rintro e W6 ⟨a1,rfl,at1,_,fit1,hb,_⟩
   have F0:=Lib.hid fit1.2
   clear fit1
   have S6:=S5.out.call hb
   have hbx:Below W6.heap.size W6 ((W6.alloc (.cells pkZ 29)).setRow W6.heap.size (pkC R.1 a1)):=q8xz (qybm _) (Nat.le_refl _) _
   have S7:=Lib.hid (S6.call hbx)
   have AT7:=Lib.hid (at1.below hbx)
   have R7:=Lib.hid (setRow_heap _ _ _ (pkC R.1 a1) _ _ (heap_alloc_new W6 (.cells pkZ 29)))
   have HD1:=Lib.hid (qwmp R.1 a1)
   have HD2:=Lib.hid (qmz0 R.1 a1)
   clear hb at1 S6 hbx S5
   go_upto_region 13 with (refine wpList_store_row rfl _ _ _ rfl W6.heap.size (pkC R.1 a1) rfl rfl 29 _ (heap_alloc_new W6 _) (by rw[HD1.out];exact q5nr) (by rw[HZ.out,HD1.out]) HD2.out ?_)
   generalize (W6.alloc (.cells pkZ 29)).setRow W6.heap.size (pkC R.1 a1)=W7 at *
   generalize W6.heap.size=b1 at *
   go_wp2_with fail
   refine(RR.out _).mono ?_
   rintro e W8 ⟨a2,rfl,at2,hb⟩
   have hbx:Below W8.heap.size W8 ((W8.alloc (.cells pkZ 29)).setRow W8.heap.size (pkC R.1 a2)):=q8xz (qybm _) (Nat.le_refl _) _
   have hbb:=qxh2 hb hbx
   have S9:=Lib.hid (show SqS w p q a b R.1 b1 W8.heap.size a1 a2 _ from⟨S7.out.call hbb,(hbb.block _ (lt_of_block R7.out)).trans R7.out,setRow_heap _ _ _ (pkC R.1 a2) _ _ (heap_alloc_new W8 (.cells pkZ 29)),AT7.out.below hbb,at2.below hbx⟩)
   have HE1:=Lib.hid (qwmp R.1 a2)
   have HE2:=Lib.hid (qmz0 R.1 a2)
   clear hb hbx hbb at2 S7 AT7 R7
   go_upto_region 14 with (refine wpList_store_row rfl _ _ _ rfl W8.heap.size (pkC R.1 a2) rfl rfl 29 _ (heap_alloc_new W8 _) (by rw[HE1.out];exact q5nr) (by rw[HZ.out,HE1.out]) HE2.out ?_)
   generalize (W8.alloc (.cells pkZ 29)).setRow W8.heap.size (pkC R.1 a2)=W9 at *
   generalize W8.heap.size=b2 at *
   have SM:=Lib.hid (fun W (h:SqS w p q a b R.1 b1 b2 a1 a2 W)=>(qbsf R.1 a1 a2 W h.ac h.ad F0.out.1 F0.out.2.1 F0.out.2.2.1 F0.out.2.2.2))
   refine qhf4 (S:=SqS w p q a b R.1 b1 b2 a1 a2) (b:=w.heap.size) (b0:=w.heap.size+1) (b1:=b1) (b2:=b2) (t:=t) (S9.out.below (Below.refl _ _).drew) HD1.out HE1.out C1.out C2.out (fun W h=>h.c) (fun W h=>h.d) (fun W h=>h.bx.one) (fun W h=>h.bx.two)
    (fun W h=>(SM.out W h).mono fun e W' hh=>⟨hh.1,h.below hh.2⟩) (fun W h=>(VA.out W h.bx).mono fun e W' hh=>⟨hh.1,h.below hh.2⟩) (fun W h=>(RV.out W h.bx).mono fun e W' hh=>⟨hh.1,h.below hh.2⟩) (fun W h=>(AN.out W h.bx).mono fun e W' hh=>⟨hh.1,h.below hh.2⟩) (fun W h=>(RA.out W h.bx).mono fun e W' hh=>⟨hh.1,h.below hh.2⟩) ?_
   intro W h
   have LO:=Lib.hid h.bx.low
   clear h SM
   go_wp2_with fail
   go_ret
   exact⟨rfl,LO.out⟩
end Go.Proofs.YtbecggefmbpnoaaGreatDoor
