/- The walk of AckNames. No condition. -/
import Derived.Deep.DeepCutAuto
import Derived.Great.BuildSlice
import Derived.Test.YthhdhagenmcbeaaGreatK17
import Derived.Test.YthhdhagenmcbeaaGreatK24
import Derived.Test.YthhdhagenmcbeaaGreatK44
import Derived.Test.YthhdhagenmcbeaaGreatK21
import Derived.Test.YthhdhagenmcbeaaGreatK52
import Derived.Test.YthhdhagenmcbeaaGreatK23
set_option maxHeartbeats 8000000
set_option maxRecDepth 100000
namespace Go.Proofs.YthhdhagenmcbeaaGreat
open Go.RowKit
def useA:Pk:={Pk.zero with kind:=5,id:=1,props:=[⟨38,0,[97],[98]⟩]}
def qq12(g:Nat):Ad:={adZ with ps:=some ⟨g,0,none⟩,pc:=1}
theorem q2iw:PkOk useA:=by
 refine⟨by decide,by decide,fun t ht=>?_,fun x hx=>(nomatch hx),fun x hx=>?_,fun x hx=>(nomatch hx)⟩
 ·have:t=[]:=by simpa [Pk.texts,Pk.zero,useA] using ht
  rw[this];decide
 ·obtain rfl:x=⟨38,0,[97],[98]⟩:=by simpa [useA] using hx
  exact⟨⟨by decide,by decide,by decide,by decide,by decide⟩,by decide,by decide⟩
theorem qq3n(g:Nat)(W:World)(h:PL W (some ⟨g,0,none⟩) useA.props):Calls Tryz.prog 7 #[.int .i64 5,.agg (pkC useA (qq12 g))] W fun e w'=>e = .returned (.tuple #[.string (bs [0,1,0,7,38,0,1,97,0,1,98]),.int .i64 0])∧Below W.heap.size W w':=by
 have:=q9ca 5 useA (qq12 g) W ⟨fun e=>absurd rfl e,CL.nil,CL.nil,h⟩ ⟨by decide,by decide,by decide,by decide⟩ q2iw (Nat.le_refl _)
 rw[show q04h 5 useA=([0,1,0,7,38,0,1,97,0,1,98],0) by decide+kernel] at this
 exact this
theorem qcm1{p:Pk}(hb:qqlb p=true)(v:Int){k:Int}(h:((qryp v p:Nat):Int)=k):∀W,Calls Tryz.prog 11 #[.int .i64 v,.agg (pkC p adZ)] W fun e w'=>e = .returned (.int .i64 k)∧Below W.heap.size W w':=fun W=>by
 obtain⟨h1,h2,h3,h4⟩:=qeln hb
 have:=qat7 v p adZ W (h1 W) h2 h3 h4.pc
 rw[h] at this
 exact this
theorem qbxo{v k:Int}{l:List UInt8}(h:(q9uf v k l).2≠0):(q9uf v k l).1=Pk.zero:=by
 unfold q9uf at h ⊢
 split
 ·rfl
 ·rename_i h1
  rw[if_neg h1] at h
  simp only at h ⊢
  split
  ·rfl
  ·rename_i h2
   rw[if_neg h2] at h
   exact absurd rfl h
theorem qsm3(v k:Int)(s:ByteArray){n:Nat}{E:Int}(hk:0≤k∧k≤100)(hm:s.size≤100)(h:(q9uf v k s.data.toList).2=n)(hn:n≠0)(he:(n:Int)=E):∀W,Calls Tryz.prog 8 #[.int .i64 v,.int .i64 k,.string s] W fun e w'=>e = .returned (.tuple #[.agg pkZ,.int .i64 E])∧Below W.heap.size W w':=fun W=>by
 refine(qbjs v k s W (by omega) (by omega) (by omega)).mono ?_
 rintro e w' ⟨a,rfl,_,_,_,hb,hz⟩
 refine⟨?_,hb⟩
 have h0:(q9uf v k s.data.toList).2≠0:=by rw[h];exact hn
 rw[hz h0,qbxo h0,h,he]
 rfl
theorem qk7c(v k:Int)(s:ByteArray)(p:Pk)(hk:0≤k∧k≤100)(hm:s.size≤100)(h:q9uf v k s.data.toList=(p,0)):∀W,Calls Tryz.prog 8 #[.int .i64 v,.int .i64 k,.string s] W fun e w'=>∃a,e = .returned (.tuple #[.agg (pkC p a),.int .i64 0])∧Below W.heap.size W w':=fun W=>by
 refine(qbjs v k s W (by omega) (by omega) (by omega)).mono ?_
 rw[h]
 rintro e w' ⟨a,rfl,_,_,_,hb,_⟩
 exact⟨a,rfl,hb⟩
theorem qr5j(p q:Pk)(b:Bool)(h:qo1u p=(q,b)):∀W,Calls Tryz.prog 9 #[.agg (pkC p adZ)] W fun e w'=>e = .returned (.tuple #[.agg (pkC q adZ),.bool b])∧Below W.heap.size W w':=fun W=>by
 have:=qj9k p adZ W
 rw[h] at this
 exact this
theorem q6lk(w:World) :
 Calls Tryz.prog 3 #[] w fun e w'=>e = .returned (.bool true)∧Below w.heap.size w w':=by
 have HZ:=Lib.hid qbwp
 have hzv:=qrai
 have hne:¬pkZ=#[]:=by intro h;have:=qbwp;rw[h] at this;cases this
 have ZO:Hid (pkZ.all (·.oneCell')=true):=Lib.hid (qmz0 Pk.zero adZ)
 obtain⟨A,hA⟩:∃A,bs [0,1,0,7,38,0,1,97,0,1,98]=A:=⟨_,rfl⟩
 have BO:=Lib.hid (fun g W h=>(hA▸qq3n g W h:Calls Tryz.prog 7 #[.int .i64 5,.agg (pkC useA (qq12 g))] W fun e w'=>e = .returned (.tuple #[.string A,.int .i64 0])∧Below W.heap.size W w'))
 have hA2:A=⟨#[0,1,0,7,38,0,1,97,0,1,98]⟩:=by rw[←hA];rfl
 have IA:=Lib.hid hA2
 have hz:A.size=11:=by rw[hA2];rfl
 have az:A++⟨#[122]⟩=⟨#[0,1,0,7,38,0,1,97,0,1,98,122]⟩:=by rw[hA2];rfl
 have ac:A.extract 0 10=⟨#[0,1,0,7,38,0,1,97,0,1]⟩:=by rw[hA2];rfl
 have AZ:=Lib.hid (And.intro hz (And.intro az ac))
 clear hA hA2 hz az ac
 have RP:=Lib.hid (qk7c 5 5 ⟨#[0,1,0,7,38,0,1,97,0,1,98]⟩ useA (by decide) (by decide) (by decide+kernel))
 have R0:=Lib.hid (qsm3 5 4 ⟨#[0,7,0]⟩ (n:=5) (by decide) (by decide) (by decide+kernel) (by decide) (E:=5) rfl)
 have R1:=Lib.hid (qsm3 5 4 ⟨#[0,7,16,0]⟩ (n:=5) (by decide) (by decide) (by decide+kernel) (by decide) (E:=5) rfl)
 have R2:=Lib.hid (qsm3 4 4 ⟨#[0,7,16]⟩ (n:=5) (by decide) (by decide) (by decide+kernel) (by decide) (E:=5) rfl)
 have R3:=Lib.hid (qsm3 5 4 ⟨#[0]⟩ (n:=3) (by decide) (by decide) (by decide+kernel) (by decide) (E:=3) rfl)
 have R4:=Lib.hid (qsm3 5 4 ⟨#[0,0]⟩ (n:=2) (by decide) (by decide) (by decide+kernel) (by decide) (E:=2) rfl)
 have R5:=Lib.hid (qsm3 5 6 ⟨#[0,7,16]⟩ (n:=2) (by decide) (by decide) (by decide+kernel) (by decide) (E:=2) rfl)
 have R6:=Lib.hid (qsm3 5 5 ⟨#[0,1,0,7,38,0,1,97,0,1,98,122]⟩ (n:=5) (by decide) (by decide) (by decide+kernel) (by decide) (E:=5) rfl)
 have R7:=Lib.hid (qsm3 5 5 ⟨#[0,1,0,7,38,0,1,97,0,1]⟩ (n:=3) (by decide) (by decide) (by decide+kernel) (by decide) (E:=3) rfl)
 have N0:=Lib.hid (qr5j (numA 5 3 16) (numA 6 3 0) true rfl)
 obtain⟨E0,hE0⟩:∃E,pkC (numA 5 3 16) adZ=E:=⟨_,rfl⟩
 have HE0:=Lib.hid hE0
 rw[hE0] at N0
 clear hE0
 replace N0:=Lib.hid N0.out
 have N1:=Lib.hid (qr5j (numA 6 3 146) (numA 7 3 0) true rfl)
 obtain⟨E1,hE1⟩:∃E,pkC (numA 6 3 146) adZ=E:=⟨_,rfl⟩
 have HE1:=Lib.hid hE1
 rw[hE1] at N1
 clear hE1
 replace N1:=Lib.hid N1.out
 have N2:=Lib.hid (qr5j (numA 5 3 128) (Pk.zero) false rfl)
 obtain⟨E2,hE2⟩:∃E,pkC (numA 5 3 128) adZ=E:=⟨_,rfl⟩
 have HE2:=Lib.hid hE2
 rw[hE2] at N2
 clear hE2
 replace N2:=Lib.hid N2.out
 have N3:=Lib.hid (qr5j (numA 4 3 0) (Pk.zero) false rfl)
 obtain⟨E3,hE3⟩:∃E,pkC (numA 4 3 0) adZ=E:=⟨_,rfl⟩
 have HE3:=Lib.hid hE3
 rw[hE3] at N3
 clear hE3
 replace N3:=Lib.hid N3.out
 obtain⟨DX,hDX⟩:∃D,pkC (numA 6 3 0) adZ=D:=⟨_,rfl⟩
 obtain⟨DY,hDY⟩:∃D,pkC (numA 7 3 0) adZ=D:=⟨_,rfl⟩
 have sx:DX.size=25:=by rw[←hDX];rfl
 have sy:DY.size=25:=by rw[←hDY];rfl
 have ox:DX.all (·.oneCell')=true:=by rw[←hDX];exact qmz0 _ _
 have oy:DY.all (·.oneCell')=true:=by rw[←hDY];exact qmz0 _ _
 have HX:=Lib.hid (And.intro hDX (And.intro sx ox))
 have HY:=Lib.hid (And.intro hDY (And.intro sy oy))
 have N0:=N0.out
 have N1:=N1.out
 rw[hDX] at N0
 rw[hDY] at N1
 replace N0:=Lib.hid N0
 replace N1:=Lib.hid N1
 have SM:=fun W=>qbsf (numA 6 3 0) adZ adZ W (qx9v _ W ⟨rfl,rfl,rfl,rfl⟩) (qx9v _ W ⟨rfl,rfl,rfl,rfl⟩) (by decide) (by decide) (by decide) (by decide)
 unfold pkV at SM
 rw[hDX] at SM
 replace SM:=Lib.hid SM
 clear hDX hDY sx sy ox oy
 have N2:=N2.out
 have N3:=N3.out
 rw[qgcz] at N2 N3
 replace N2:=Lib.hid N2
 replace N3:=Lib.hid N3
 have VA:=Lib.hid (qcm1 (p:=numA 4 1 16) (by decide+kernel) 4 (k:=2) (by decide+kernel))
 have VB:=Lib.hid (qcm1 (p:=numA 3 1 0) (by decide+kernel) 5 (k:=2) (by decide+kernel))
 have VC:=Lib.hid (qcm1 (p:=numA 4 65536 0) (by decide+kernel) 5 (k:=2) (by decide+kernel))
 obtain⟨U,hU⟩:∃g,w.heap.size=g:=⟨_,rfl⟩
 go_enter Tryz.func3,Tryz.ntmps3
 go_wp2_with fail
 refine(q6if _).mono ?_
 rintro e W0 ⟨rfl,hb⟩
 have S0:Hid (NmS w [] W0):=Lib.hid ⟨hb,(fun x hx=>nomatch hx),.nil⟩
 clear hb hU
 have PU:=Lib.hid (PL.made W0 useA.props #[.int .i64 38,.int .u32 0,.string ⟨#[97]⟩,.string ⟨#[98]⟩] 25 rfl)
 have S1:=Lib.hid (S0.out.call (qybm (.cells #[.int .i64 38,.int .u32 0,.string ⟨#[97]⟩,.string ⟨#[98]⟩] 25)))
 go_upto_region 4 with fail
 obtain⟨D,hD⟩:∃D,pkC useA (qq12 W0.heap.size)=D:=⟨_,rfl⟩
 have BO2:=BO.out W0.heap.size _ PU.out
 rw[hD] at BO2
 have HD:=Lib.hid hD
 replace BO2:=Lib.hid BO2
 clear hD PU BO S0
 go_wp2_with (refine wpList_buildTo rfl 35 _ rfl (some _) rfl D (by rw[←HD.out];kernel_rfl) ?_)
 refine(BO2.out).mono ?_
 rintro e W2 ⟨rfl,hb⟩
 have S2:=Lib.hid (S1.out.call hb)
 clear hb S1 BO2 HD
 go_wp2_with fail
 refine(R0.out _).mono ?_
 rintro e W3 ⟨rfl,hb⟩
 have S3:=Lib.hid (S2.out.call hb).junk
 clear hb S2
 go_wp2_with (refine wpList_store_row rfl _ _ _ rfl W3.heap.size pkZ rfl rfl 35 _ (heap_alloc_new W3 _) (by rw[HZ.out];exact q5nr) rfl ZO.out ?_)
 refine(R1.out _).mono ?_
 rintro e W4 ⟨rfl,hb⟩
 have S4:=Lib.hid (S3.out.call hb).junk
 clear hb S3
 go_wp2_with (refine wpList_store_row rfl _ _ _ rfl W4.heap.size pkZ rfl rfl 35 _ (heap_alloc_new W4 _) (by rw[HZ.out];exact q5nr) rfl ZO.out ?_)
 refine(R2.out _).mono ?_
 rintro e W5 ⟨rfl,hb⟩
 have S5:=Lib.hid (S4.out.call hb).junk
 clear hb S4
 go_wp2_with (refine wpList_store_row rfl _ _ _ rfl W5.heap.size pkZ rfl rfl 35 _ (heap_alloc_new W5 _) (by rw[HZ.out];exact q5nr) rfl ZO.out ?_)
 refine(R3.out _).mono ?_
 rintro e W6 ⟨rfl,hb⟩
 have S6:=Lib.hid (S5.out.call hb).junk
 clear hb S5
 go_wp2_with (refine wpList_store_row rfl _ _ _ rfl W6.heap.size pkZ rfl rfl 35 _ (heap_alloc_new W6 _) (by rw[HZ.out];exact q5nr) rfl ZO.out ?_)
 refine(R4.out _).mono ?_
 rintro e W7 ⟨rfl,hb⟩
 have S7:=Lib.hid (S6.out.call hb).junk
 clear hb S6
 go_wp2_with (refine wpList_store_row rfl _ _ _ rfl W7.heap.size pkZ rfl rfl 35 _ (heap_alloc_new W7 _) (by rw[HZ.out];exact q5nr) rfl ZO.out ?_)
 refine(R5.out _).mono ?_
 rintro e W8 ⟨rfl,hb⟩
 have S8:=Lib.hid (S7.out.call hb).junk
 clear hb S7
 have ia:=IA.out
 subst ia
 go_wp2_with (refine wpList_store_row rfl _ _ _ rfl W8.heap.size pkZ rfl rfl 35 _ (heap_alloc_new W8 _) (by rw[HZ.out];exact q5nr) rfl ZO.out ?_)
 refine(RP.out _).mono ?_
 rintro e W9 ⟨ap,rfl,hb⟩
 have KP:=Lib.hid (show(pkC useA ap)[24]? = some (.slice ap.ps 1 ap.pc) from rfl)
 have PS:=Lib.hid (qwmp useA ap)
 have PO:=Lib.hid (qmz0 useA ap)
 generalize pkC useA ap=DP at *
 have S9:=Lib.hid ((S8.out.call hb).put DP)
 clear hb S8
 go_wp2_with (refine wpList_store_row rfl _ _ _ rfl W9.heap.size DP rfl rfl 35 _ (heap_alloc_new W9 _) (by rw[PS.out];exact q5nr) (by rw[HZ.out,PS.out]) PO.out ?_)
 refine(R6.out _).mono ?_
 rintro e W10 ⟨rfl,hb⟩
 have S10:=Lib.hid (S9.out.call hb).junk
 clear hb S9
 go_wp2_with (refine wpList_store_row rfl _ _ _ rfl W10.heap.size pkZ rfl rfl 35 _ (heap_alloc_new W10 _) (by rw[HZ.out];exact q5nr) rfl ZO.out ?_)
 refine(R7.out _).mono ?_
 rintro e W11 ⟨rfl,hb⟩
 have S11:=Lib.hid (S10.out.call hb).junk
 clear hb S10
 go_wp2_with (first
  | (refine wpList_store_row rfl _ _ _ rfl W11.heap.size pkZ rfl rfl 35 _ (heap_alloc_new W11 _) (by rw[HZ.out];exact q5nr) rfl ZO.out ?_)
  | (refine wpList_buildTo rfl 35 _ rfl (some _) rfl E0 (by rw[←HE0.out];kernel_rfl) ?_))
 refine(N0.out _).mono ?_
 rintro e W12 ⟨rfl,hb⟩
 have S12:=Lib.hid ((S11.out.call hb).put DX)
 clear hb S11
 go_wp2_with (first
  | (refine wpList_store_row rfl _ _ _ rfl W12.heap.size DX rfl rfl 35 _ (heap_alloc_new W12 _) (by rw[HX.out.2.1];exact q5nr) (by rw[HZ.out,HX.out.2.1]) HX.out.2.2 ?_)
  | (refine wpList_buildTo rfl 35 _ rfl (some _) rfl E1 (by rw[←HE1.out];kernel_rfl) ?_))
 refine(N1.out _).mono ?_
 rintro e W13 ⟨rfl,hb⟩
 have S13:=Lib.hid ((S12.out.call hb).put DY)
 clear hb S12
 go_wp2_with (first
  | (refine wpList_store_row rfl _ _ _ rfl W13.heap.size DY rfl rfl 35 _ (heap_alloc_new W13 _) (by rw[HY.out.2.1];exact q5nr) (by rw[HZ.out,HY.out.2.1]) HY.out.2.2 ?_)
  | (refine wpList_buildTo rfl 35 _ rfl (some _) rfl E2 (by rw[←HE2.out];kernel_rfl) ?_))
 refine(N2.out _).mono ?_
 rintro e W14 ⟨rfl,hb⟩
 have S14:=Lib.hid (S13.out.call hb).junk
 clear hb S13
 go_wp2_with (first
  | (refine wpList_store_row rfl _ _ _ rfl W14.heap.size pkZ rfl rfl 35 _ (heap_alloc_new W14 _) (by rw[HZ.out];exact q5nr) rfl ZO.out ?_)
  | (refine wpList_buildTo rfl 35 _ rfl (some _) rfl E3 (by rw[←HE3.out];kernel_rfl) ?_))
 refine(N3.out _).mono ?_
 rintro e W15 ⟨rfl,hb⟩
 have S15:=Lib.hid (S14.out.call hb).junk
 clear hb S14
 go_upto_region 18 with (refine wpList_store_row rfl _ _ _ rfl W15.heap.size pkZ rfl rfl 35 _ (heap_alloc_new W15 _) (by rw[HZ.out];exact q5nr) rfl ZO.out ?_)
 refine q3fr (T:=NmS w [(W13.heap.size,DY),(W12.heap.size,DX),(W9.heap.size,DP)]) (gP:=W9.heap.size) (gX:=W12.heap.size) (gY:=W13.heap.size) (AP:=ap.ps) (cp:=ap.pc) (DX:=DX) (B6:=DX) S15.out rfl (by rw[←HX.out.1];kernel_rfl) rfl rfl rfl HX.out.2.1
  (fun W h=>(h.row (W12.heap.size,DX) (by simp)).2) (fun W h=>(cell_of_row _ _ 24 _ _ _ (h.row (W9.heap.size,DP) (by simp)).2).trans KP.out)
  (fun W h=>(cell_of_row _ _ 0 _ _ _ (h.row (W13.heap.size,DY) (by simp)).2).trans (by rw[←HY.out.1];rfl)) (fun W h=>(cell_of_row _ _ 4 _ _ _ (h.row (W13.heap.size,DY) (by simp)).2).trans (by rw[←HY.out.1];rfl)) (fun W h=>(cell_of_row _ _ 21 _ _ _ (h.row (W13.heap.size,DY) (by simp)).2).trans (by rw[←HY.out.1];rfl))
  (fun W h=>(SM.out W).mono fun e w' ⟨he,hb⟩=>⟨he,h.call hb⟩) (fun W h=>(VA.out W).mono fun e w' ⟨he,hb⟩=>⟨he,h.call hb⟩) (fun W h=>(VB.out W).mono fun e w' ⟨he,hb⟩=>⟨he,h.call hb⟩) (fun W h=>(VC.out W).mono fun e w' ⟨he,hb⟩=>⟨he,h.call hb⟩) ?_
 intro W h
 have LE:=Lib.hid h.low
 clear h
 go_wp2_with fail
 go_ret
 exact⟨rfl,LE.out⟩
end Go.Proofs.YthhdhagenmcbeaaGreat
