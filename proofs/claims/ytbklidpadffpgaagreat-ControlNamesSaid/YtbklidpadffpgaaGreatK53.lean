/- The walk of ControlNames. No condition. -/
import Derived.Deep.DeepCutAuto
import Derived.Great.BuildSlice
import Derived.Test.YtbklidpadffpgaaGreatK18
import Derived.Test.YtbklidpadffpgaaGreatK25
import Derived.Test.YtbklidpadffpgaaGreatK44
import Derived.Test.YtbklidpadffpgaaGreatK52
import Derived.Test.YtbklidpadffpgaaGreatK17
import Derived.Test.YtbklidpadffpgaaGreatK23
set_option maxHeartbeats 8000000
set_option maxRecDepth 100000
namespace Go.Proofs.YtbklidpadffpgaaGreat
open Go.RowKit
def qcun(g:Nat):Ad:={adZ with ps:=some ⟨g,0,none⟩,pc:=1}
theorem qdqs:PkOk whyK:=by
 refine⟨by decide,by decide,fun t ht=>?_,fun x hx=>(nomatch hx),fun x hx=>?_,fun x hx=>(nomatch hx)⟩
 ·have:t=[]:=by simpa [Pk.texts,Pk.zero,whyK] using ht
  rw[this];decide
 ·obtain rfl:x=⟨31,0,[120],[]⟩:=by simpa [whyK,whyL] using hx
  exact⟨⟨by decide,by decide,by decide,by decide,by decide⟩,by decide,by decide⟩
theorem q1qj:q21o whyK:=⟨by decide,by decide,by decide,by decide⟩
theorem qy3s{g:Nat}{W:World}(h:PL W (some ⟨g,0,none⟩) whyL):PkAt W whyK (qcun g):=⟨fun e=>absurd rfl e,CL.nil,CL.nil,h⟩
theorem q4in{p:Pk}(hb:qqlb p=true)(v:Int){k:Int}(h:((q1ra v p:Nat):Int)=k):∀W,Calls Tryz.prog 11 #[.int .i64 v,.agg (pkC p adZ)] W fun e w'=>e = .returned (.int .i64 k)∧Below W.heap.size W w':=fun W=>by
 obtain⟨h1,h2,h3,h4⟩:=qeln hb
 have:=qcuz v p adZ W (h1 W) h2 h3 h4.pc
 rw[h] at this
 exact this
theorem qef4(v k:Int)(s:ByteArray){n:Nat}{E:Int}(hk:0≤k∧k≤100)(hm:s.size≤100)(h:(qf4x v k s.data.toList).2=n)(hn:n≠0)(he:(n:Int)=E):∀W,Calls Tryz.prog 8 #[.int .i64 v,.int .i64 k,.string s] W fun e w'=>e = .returned (.tuple #[.agg pkZ,.int .i64 E])∧Below W.heap.size W w':=fun W=>by
 refine(qpg4 v k s W (by omega) (by omega) (by omega)).mono ?_
 rintro e w' ⟨a,rfl,_,_,_,hb,hz⟩
 refine⟨?_,hb⟩
 have h0:(qf4x v k s.data.toList).2≠0:=by rw[h];exact hn
 rw[hz h0,qgfx h0,h,he]
 rfl
theorem qo8e(v k:Int)(s:ByteArray)(p:Pk)(hk:0≤k∧k≤100)(hm:s.size≤100)(h:qf4x v k s.data.toList=(p,0)):∀W,Calls Tryz.prog 8 #[.int .i64 v,.int .i64 k,.string s] W fun e w'=>∃a,e = .returned (.tuple #[.agg (pkC p a),.int .i64 0])∧PkAt w' p a∧Below W.heap.size W w':=fun W=>by
 refine(qpg4 v k s W (by omega) (by omega) (by omega)).mono ?_
 rw[h]
 rintro e w' ⟨a,rfl,h1,_,_,hb,_⟩
 exact⟨a,rfl,h1,hb⟩
theorem q436(code kind:Int)(hk:0≤kind∧kind≤100){X:List UInt8}(h:q4py code [] kind=X):∀W,Calls Tryz.prog 12 #[.int .i64 code,.slice none 0 0,.int .i64 kind] W fun e w'=>e = .returned (.string (bs X))∧Below W.heap.size W w':=fun W=>by
 have:=qv9d code kind Pk.zero adZ W (qx9v _ W ⟨rfl,rfl,rfl,rfl⟩) ⟨by decide,by decide,by decide,by decide⟩ (qd1l (k:=0) (c:=0) (by decide)) (Nat.le_refl _) ⟨by omega,by omega⟩
 rw[show Pk.zero.props=[] from rfl,h] at this
 exact this
structure NkS(w:World)(LL:List (Nat×Array Value))(gW:Nat)(sa:Option Addr)(aq:Ad)(W:World):Prop where
 nm:NmS w LL W
 pw:PL W (some ⟨gW,0,none⟩) whyL
 pp:PL W sa whyL
 pq:PkAt W (numK 13 0) aq
theorem NkS.call{w W W':World}{LL:List (Nat×Array Value)}{gW:Nat}{sa:Option Addr}{aq:Ad}(h:NkS w LL gW sa aq W)(hb:Below W.heap.size W W'):NkS w LL gW sa aq W':=⟨h.nm.call hb,h.pw.below hb,h.pp.below hb,h.pq.below hb⟩
theorem q0x3(w:World) :
 Calls Tryz.prog 3 #[] w fun e w'=>e = .returned (.bool true)∧Below w.heap.size w w':=by
 have HZ:=Lib.hid qbwp
 have hzv:=qrai
 have hne:¬pkZ=#[]:=by intro h;have:=qbwp;rw[h] at this;cases this
 have ZO:Hid (pkZ.all (·.oneCell')=true):=Lib.hid (qmz0 Pk.zero adZ)
 obtain⟨A,hA⟩:∃A,bs [24,4,31,0,1,120]=A:=⟨_,rfl⟩
 have BO:∀g W,PL W (some ⟨g,0,none⟩) whyL→Calls Tryz.prog 7 #[.int .i64 5,.agg (pkC whyK (qcun g))] W fun e w'=>e = .returned (.tuple #[.string A,.int .i64 0])∧Below W.heap.size W w':=fun g W h=>by
  have:=qck4 5 whyK (qcun g) W (qy3s h) q1qj qdqs (Nat.le_refl _)
  rw[qnq6,hA] at this
  exact this
 have BO:=Lib.hid BO
 have hA2:A=⟨#[24,4,31,0,1,120]⟩:=by rw[←hA];rfl
 have IA:=Lib.hid hA2
 clear hA hA2
 have RP:=Lib.hid (qo8e 5 15 ⟨#[24,4,31,0,1,120]⟩ whyK (by decide) (by decide) (by decide+kernel))
 have RQ:=Lib.hid (qo8e 5 13 ⟨#[]⟩ (numK 13 0) (by decide) (by decide) (by decide+kernel))
 have R0:=Lib.hid (qef4 4 15 ⟨#[]⟩ (n:=8) (by decide) (by decide) (by decide+kernel) (by decide) (E:=8) rfl)
 have R1:=Lib.hid (qef4 4 12 ⟨#[120]⟩ (n:=5) (by decide) (by decide) (by decide+kernel) (by decide) (E:=5) rfl)
 have R2:=Lib.hid (qef4 4 14 ⟨#[4]⟩ (n:=5) (by decide) (by decide) (by decide+kernel) (by decide) (E:=5) rfl)
 have R3:=Lib.hid (qef4 5 14 ⟨#[0]⟩ (n:=5) (by decide) (by decide) (by decide+kernel) (by decide) (E:=5) rfl)
 have R4:=Lib.hid (qef4 5 14 ⟨#[4,0]⟩ (n:=5) (by decide) (by decide) (by decide+kernel) (by decide) (E:=5) rfl)
 have R5:=Lib.hid (qef4 5 14 ⟨#[5]⟩ (n:=2) (by decide) (by decide) (by decide+kernel) (by decide) (E:=2) rfl)
 have R6:=Lib.hid (qef4 5 1 ⟨#[]⟩ (n:=2) (by decide) (by decide) (by decide+kernel) (by decide) (E:=2) rfl)
 have VA:=Lib.hid (q4in (p:=numK 15 0) (by decide+kernel) 4 (k:=8) (by decide+kernel))
 have VB:=Lib.hid (q4in (p:=numK 14 4) (by decide+kernel) 4 (k:=2) (by decide+kernel))
 have VC:=Lib.hid (q4in (p:={Pk.zero with kind:=12,topic:=[97]}) (by decide+kernel) 5 (k:=2) (by decide+kernel))
 have T1:=Lib.hid (q436 300 15 (by decide) qpox)
 have T2:=Lib.hid (q436 24 15 (by decide) qnr5)
 have T3:=Lib.hid (q436 0 15 (by decide) qhxn)
 have T4:∀g W,PL W (some ⟨g,0,none⟩) whyL→Calls Tryz.prog 12 #[.int .i64 0,.slice (some ⟨g,0,none⟩) 1 1,.int .i64 12] W fun e w'=>e = .returned (.string (bs []))∧Below W.heap.size W w':=fun g W h=>by
  have:=qv9d 0 12 whyK (qcun g) W (qy3s h) q1qj qdqs (Nat.le_refl _) (by decide)
  rw[show whyK.props=whyL from rfl,qm07] at this
  exact this
 replace T4:=Lib.hid T4
 have SQ:∀aq W,PkAt W (numK 13 0) aq→Calls Tryz.prog 10 #[.agg (pkC (numK 13 0) aq),.agg (pkC (numK 13 0) adZ)] W fun e w'=>e = .returned (.bool true)∧Below W.heap.size W w':=fun aq W h=>by
  have:=qbsf (numK 13 0) aq adZ W h (qx9v _ W ⟨rfl,rfl,rfl,rfl⟩) (by decide) (by decide) (by decide) (by decide)
  unfold pkV at this
  exact this
 replace SQ:=Lib.hid SQ
 have SP:∀sa cp g W,PL W sa whyL→PL W (some ⟨g,0,none⟩) whyL→Calls Tryz.prog 9 #[.slice sa 1 cp,.slice (some ⟨g,0,none⟩) 1 1] W fun e w'=>e = .returned (.bool true)∧Below W.heap.size W w':=fun sa cp g W h1 h2=>by
  refine(qgtk sa (some ⟨g,0,none⟩) 1 1 cp 1 whyL whyL W h1 h2 rfl rfl (by decide) (by decide)).mono ?_
  rintro e w' ⟨rfl,k,rfl⟩
  exact⟨by simp,qnpu (Below.refl _ _) k⟩
 replace SP:=Lib.hid SP
 go_enter Tryz.func3,Tryz.ntmps3
 go_wp2_with fail
 refine(qpnd _).mono ?_
 rintro e W0 ⟨rfl,hb⟩
 have S0:Hid (NmS w [] W0):=Lib.hid ⟨hb,(fun x hx=>nomatch hx),.nil⟩
 clear hb
 have PU:=Lib.hid (PL.made W0 whyL #[.int .i64 31,.int .u32 0,.string ⟨#[120]⟩,.string ⟨#[]⟩] 25 rfl)
 have S1:=Lib.hid (S0.out.call (qybm (.cells #[.int .i64 31,.int .u32 0,.string ⟨#[120]⟩,.string ⟨#[]⟩] 25)))
 go_upto_region 4 with fail
 obtain⟨D,hD⟩:∃D,pkC whyK (qcun W0.heap.size)=D:=⟨_,rfl⟩
 have BO2:=BO.out W0.heap.size _ PU.out
 rw[hD] at BO2
 have HD:=Lib.hid hD
 replace BO2:=Lib.hid BO2
 clear hD BO S0
 go_wp2_with (refine wpList_buildTo rfl 35 _ rfl (some _) rfl D (by rw[←HD.out];kernel_rfl) ?_)
 refine(BO2.out).mono ?_
 rintro e W2 ⟨rfl,hb⟩
 have S2:=Lib.hid (S1.out.call hb)
 have P2:=Lib.hid (PU.out.below hb)
 clear hb S1 BO2 HD PU
 have ia:=IA.out
 subst ia
 go_wp2_with fail
 refine(RP.out _).mono ?_
 rintro e W3 ⟨ap,rfl,hat,hb⟩
 have KP:=Lib.hid (show(pkC whyK ap)[24]? = some (.slice ap.ps 1 ap.pc) from rfl)
 have KC:=Lib.hid (show(pkC whyK ap)[21]? = some (.int .i64 24) from rfl)
 have PS:=Lib.hid (qwmp whyK ap)
 have PO:=Lib.hid (qmz0 whyK ap)
 have hbb:=qxh2 hb (qhum W3 (pkC whyK ap))
 have P3:=Lib.hid (P2.out.below hbb)
 have Q3:=Lib.hid (show PL _ ap.ps whyL from hat.ps.below (qhum W3 (pkC whyK ap)))
 have S3:=Lib.hid ((S2.out.call hb).put (pkC whyK ap))
 generalize pkC whyK ap=DP at *
 clear hb hbb hat S2 P2 RP
 go_wp2_with (refine wpList_store_row rfl _ _ _ rfl W3.heap.size DP rfl rfl 35 _ (heap_alloc_new W3 _) (by rw[PS.out];exact q5nr) (by rw[HZ.out,PS.out]) PO.out ?_)
 refine(R0.out _).mono ?_
 rintro e W4 ⟨rfl,hb⟩
 have hbb:=qxh2 hb (qhum W4 pkZ)
 have P4:=Lib.hid (P3.out.below hbb)
 have Q4:=Lib.hid (Q3.out.below hbb)
 have S4:=Lib.hid (S3.out.call hb).junk
 clear hb hbb S3 P3 Q3 R0
 go_wp2_with (refine wpList_store_row rfl _ _ _ rfl W4.heap.size pkZ rfl rfl 35 _ (heap_alloc_new W4 _) (by rw[HZ.out];exact q5nr) rfl ZO.out ?_)
 refine(R1.out _).mono ?_
 rintro e W5 ⟨rfl,hb⟩
 have hbb:=qxh2 hb (qhum W5 pkZ)
 have P5:=Lib.hid (P4.out.below hbb)
 have Q5:=Lib.hid (Q4.out.below hbb)
 have S5:=Lib.hid (S4.out.call hb).junk
 clear hb hbb S4 P4 Q4 R1
 go_wp2_with (refine wpList_store_row rfl _ _ _ rfl W5.heap.size pkZ rfl rfl 35 _ (heap_alloc_new W5 _) (by rw[HZ.out];exact q5nr) rfl ZO.out ?_)
 refine(R2.out _).mono ?_
 rintro e W6 ⟨rfl,hb⟩
 have hbb:=qxh2 hb (qhum W6 pkZ)
 have P6:=Lib.hid (P5.out.below hbb)
 have Q6:=Lib.hid (Q5.out.below hbb)
 have S6:=Lib.hid (S5.out.call hb).junk
 clear hb hbb S5 P5 Q5 R2
 go_wp2_with (refine wpList_store_row rfl _ _ _ rfl W6.heap.size pkZ rfl rfl 35 _ (heap_alloc_new W6 _) (by rw[HZ.out];exact q5nr) rfl ZO.out ?_)
 refine(R3.out _).mono ?_
 rintro e W7 ⟨rfl,hb⟩
 have hbb:=qxh2 hb (qhum W7 pkZ)
 have P7:=Lib.hid (P6.out.below hbb)
 have Q7:=Lib.hid (Q6.out.below hbb)
 have S7:=Lib.hid (S6.out.call hb).junk
 clear hb hbb S6 P6 Q6 R3
 go_wp2_with (refine wpList_store_row rfl _ _ _ rfl W7.heap.size pkZ rfl rfl 35 _ (heap_alloc_new W7 _) (by rw[HZ.out];exact q5nr) rfl ZO.out ?_)
 refine(R4.out _).mono ?_
 rintro e W8 ⟨rfl,hb⟩
 have hbb:=qxh2 hb (qhum W8 pkZ)
 have P8:=Lib.hid (P7.out.below hbb)
 have Q8:=Lib.hid (Q7.out.below hbb)
 have S8:=Lib.hid (S7.out.call hb).junk
 clear hb hbb S7 P7 Q7 R4
 go_wp2_with (refine wpList_store_row rfl _ _ _ rfl W8.heap.size pkZ rfl rfl 35 _ (heap_alloc_new W8 _) (by rw[HZ.out];exact q5nr) rfl ZO.out ?_)
 refine(R5.out _).mono ?_
 rintro e W9 ⟨rfl,hb⟩
 have hbb:=qxh2 hb (qhum W9 pkZ)
 have P9:=Lib.hid (P8.out.below hbb)
 have Q9:=Lib.hid (Q8.out.below hbb)
 have S9:=Lib.hid (S8.out.call hb).junk
 clear hb hbb S8 P8 Q8 R5
 go_wp2_with (refine wpList_store_row rfl _ _ _ rfl W9.heap.size pkZ rfl rfl 35 _ (heap_alloc_new W9 _) (by rw[HZ.out];exact q5nr) rfl ZO.out ?_)
 refine(R6.out _).mono ?_
 rintro e W10 ⟨rfl,hb⟩
 have hbb:=qxh2 hb (qhum W10 pkZ)
 have P10:=Lib.hid (P9.out.below hbb)
 have Q10:=Lib.hid (Q9.out.below hbb)
 have S10:=Lib.hid (S9.out.call hb).junk
 clear hb hbb S9 P9 Q9 R6
 go_wp2_with (refine wpList_store_row rfl _ _ _ rfl W10.heap.size pkZ rfl rfl 35 _ (heap_alloc_new W10 _) (by rw[HZ.out];exact q5nr) rfl ZO.out ?_)
 refine(RQ.out _).mono ?_
 rintro e W11 ⟨aq,rfl,hat,hb⟩
 have QS:=Lib.hid (qwmp (numK 13 0) aq)
 have QO:=Lib.hid (qmz0 (numK 13 0) aq)
 have hbb:=qxh2 hb (qhum W11 (pkC (numK 13 0) aq))
 have SX:=Lib.hid (NkS.mk ((S10.out.call hb).put (pkC (numK 13 0) aq)) (P10.out.below hbb) (Q10.out.below hbb) (hat.below (qhum W11 (pkC (numK 13 0) aq))))
 have SQ2:=Lib.hid (SQ.out aq)
 generalize pkC (numK 13 0) aq=DQ at *
 clear hb hbb hat S10 P10 Q10 RQ SQ
 go_upto_region 14 with (refine wpList_store_row rfl _ _ _ rfl W11.heap.size DQ rfl rfl 35 _ (heap_alloc_new W11 _) (by rw[QS.out];exact q5nr) (by rw[HZ.out,QS.out]) QO.out ?_)
 refine qt9s (T:=NkS w [(W11.heap.size,DQ),(W3.heap.size,DP)] W0.heap.size ap.ps aq) (gW:=W0.heap.size) (gP:=W3.heap.size) (gQ:=W11.heap.size) (sa:=ap.ps) (cp:=ap.pc) (DQ:=DQ) (B0:=pkC (numK 13 0) adZ) SX.out rfl (by kernel_rfl) rfl rfl rfl QS.out
  (fun W h=>(h.nm.row (W11.heap.size,DQ) (by simp)).2) (fun W h=>(cell_of_row _ _ 24 _ _ _ (h.nm.row (W3.heap.size,DP) (by simp)).2).trans KP.out) (fun W h=>(cell_of_row _ _ 21 _ _ _ (h.nm.row (W3.heap.size,DP) (by simp)).2).trans KC.out)
  (fun W h=>(SP.out _ _ _ W h.pp h.pw).mono fun e w' ⟨he,hb⟩=>⟨he,h.call hb⟩) (fun W h=>(SQ2.out W h.pq).mono fun e w' ⟨he,hb⟩=>⟨he,h.call hb⟩) (fun W h=>(VA.out W).mono fun e w' ⟨he,hb⟩=>⟨he,h.call hb⟩) (fun W h=>(VB.out W).mono fun e w' ⟨he,hb⟩=>⟨he,h.call hb⟩) (fun W h=>(VC.out W).mono fun e w' ⟨he,hb⟩=>⟨he,h.call hb⟩)
  (fun W h=>(T1.out W).mono fun e w' ⟨he,hb⟩=>⟨he,h.call hb⟩) (fun W h=>(T2.out W).mono fun e w' ⟨he,hb⟩=>⟨he,h.call hb⟩) (fun W h=>(T3.out W).mono fun e w' ⟨he,hb⟩=>⟨he,h.call hb⟩) (fun W h=>(T4.out _ W h.pw).mono fun e w' ⟨he,hb⟩=>⟨he,h.call hb⟩) ?_
 intro W h
 have LE:=Lib.hid h.nm.low
 clear h
 go_wp2_with fail
 go_ret
 exact⟨rfl,LE.out⟩
end Go.Proofs.YtbklidpadffpgaaGreat
