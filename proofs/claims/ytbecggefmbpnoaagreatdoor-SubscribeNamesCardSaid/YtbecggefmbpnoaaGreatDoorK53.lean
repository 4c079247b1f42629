/- The walk of SubscribeNames. No condition. -/
import Derived.Deep.DeepCutAuto
import Derived.Great.BuildSlice
import Derived.Deep.AppendLies
import Derived.Test.YtbecggefmbpnoaaGreatDoorK51
import Derived.Test.YtbecggefmbpnoaaGreatDoorK52
set_option maxHeartbeats 8000000
set_option maxRecDepth 100000
namespace Go.Proofs.YtbecggefmbpnoaaGreatDoor
open Go.RowKit
theorem qhxv(w:World):Calls Tryz.prog 3 #[] w fun e w'=>e = .returned (.bool true)∧Below w.heap.size w w':=by
 have hzv:=qrai
 have hne:¬pkZ=#[]:=by intro h;have:=qbwp;rw[h] at this;cases this
 have HZ:=Lib.hid qbwp
 have PZ:Hid (pkZ.all (·.oneCell')=true):=Lib.hid (qmz0 Pk.zero adZ)
 obtain⟨i0,hi,hz0,hz1,hz2⟩:=info_parts q4j3
 have HIF:=Lib.hid (And.intro hi (And.intro hz0 (And.intro hz1 hz2)))
 clear hi hz0 hz1 hz2
 go_enter Tryz.func3,Tryz.ntmps3
 go_wp2_with fail
 refine(qv1l _).mono ?_
 rintro e W0 ⟨rfl,hb⟩
 have L0:=Lib.hid hb
 clear hb
 go_wp2_with fail
 refine(qkbi _).mono ?_
 rintro e W1 ⟨g1,rfl,hown,hg1,hg1',hb⟩
 have L1:=Lib.hid (qxh2 L0.out hb)
 have HG1:=Lib.hid (And.intro hg1 hg1')
 have HW0:=Lib.hid L0.out.size
 have D1:=Lib.hid (qwmp qucf (adF (some ⟨g1,0,none⟩) 1))
 have D2:=Lib.hid (qmz0 qucf (adF (some ⟨g1,0,none⟩) 1))
 have bx1:=qhum W1 (pkC qucf (adF (some ⟨g1,0,none⟩) 1))
 have hown2:=qzd3 hown bx1
 have G2:=Lib.hid (setRow_heap _ _ _ (pkC qucf (adF (some ⟨g1,0,none⟩) 1)) _ _ (heap_alloc_new W1 (.cells pkZ 29)))
 have L2:=Lib.hid (qxh2 L1.out bx1)
 clear hb hg1 hg1' hown bx1 L0 L1
 go_upto_region 4 with (refine wpList_store_row rfl _ _ _ rfl W1.heap.size (pkC qucf (adF (some ⟨g1,0,none⟩) 1)) rfl rfl 29 _ (heap_alloc_new W1 _) (by rw[D1.out];exact q5nr) (by rw[HZ.out,D1.out]) D2.out ?_)
 generalize (W1.alloc (.cells pkZ 29)).setRow W1.heap.size (pkC qucf (adF (some ⟨g1,0,none⟩) 1))=W2 at *
 generalize W1.heap.size=B1 at *
 have k23:W2.cell? ⟨B1,23,none⟩=some (.slice (some ⟨g1,0,none⟩) 1 1):=cell_of_row _ _ 23 _ _ _ G2.out
 have hBB:=lt_of_block G2.out
 have HBB:=Lib.hid hBB
 have hone:∀u∈[Value.string ⟨#[98]⟩,.int .i64 1,.bool true,.bool true,.int .i64 2],u.oneCell'=true:=by simp[Value.oneCell']
 have hb2:W0.heap.size≤W2.heap.size:=by have:=HG1.out;omega
 go_upto_region 5 with (first
  | (at_builtin;refine wpList_append_lies _ (by rfl) _ _ 27 (by rfl) W0.heap.size 32 i0 (.agg #[.string .empty,.int .i64 0,.bool false,.bool false,.int .i64 0]) 5 40 Tryz.underlying27 HIF.out.1 HIF.out.2.1 HIF.out.2.2.1 HIF.out.2.2.2 rfl (by decide) (.slice (some ⟨g1,0,none⟩) 1 1) 1 (fcs [oneF]) (by rfl) (hown2.alloc _) ⟨W2.heap.size,0,none⟩ 1 1 [.string ⟨#[98]⟩,.int .i64 1,.bool true,.bool true,.int .i64 2] (by rfl) rfl (World.news_of_block (cs:=#[.string ⟨#[98]⟩,.int .i64 1,.bool true,.bool true,.int .i64 2]) (heap_alloc_new W2 _)) hone (by decide) (by unfold maxLen;omega) (by omega) (by simp only[World.size_alloc];omega) _ rfl ?_))
 intro g5 cap5 W3 hown3 hgrow hat hlt5
 replace hown3:W3.ownsRow W0.heap.size 32 5 (.slice (some ⟨g5,0,none⟩) 2 cap5) 2 (fcs [oneF,bF]):=hown3
 have hgrow2:(W2.alloc (.cells #[.string ⟨#[98]⟩,.int .i64 1,.bool true,.bool true,.int .i64 2] 32)).grownBy W3 (some g1):=hgrow
 have hat2:g5≠B1:=by
  rcases hat with h | h
  ·have h:some g1=some g5:=h
   have:=Option.some.inj h;have:=HG1.out;omega
  ·omega
 have hsz:(W2.alloc (.cells #[.string ⟨#[98]⟩,.int .i64 1,.bool true,.bool true,.int .i64 2] 32)).heap.size=W2.heap.size+1:=World.size_alloc _ _
 have hg1B:some B1≠some g1:=fun e=>by have:=Option.some.inj e;have:=HG1.out;omega
 have G3:=Lib.hid ((hgrow2.block B1 (by omega) hg1B).trans ((heap_alloc_old W2 _ hBB).trans G2.out))
 have HW:=Lib.hid (show w.heap.size≤B1 by have:=HG1.out;have:=HW0.out;omega)
 have L3:Below w.heap.size w W3:=by
  have l2:=L2.out.alloc (by have:=L2.out.size;omega) (.cells #[.string ⟨#[98]⟩,.int .i64 1,.bool true,.bool true,.int .i64 2] 32)
  exact⟨hgrow2.os.trans l2.os,hgrow2.tape.trans l2.tape,hgrow2.output.trans l2.output,Nat.le_trans l2.size hgrow2.size,fun j hj=>(hgrow2.block j (Nat.lt_of_lt_of_le hj l2.size) (fun e=>by have:=Option.some.inj e;have:=HG1.out;have:=HW0.out;omega)).trans (l2.block j hj)⟩
 obtain⟨A5,c5,hv5,-,hC5,-⟩:=CL.owned hown3 hown3.1
 cases hv5
 have S4:Hid (RwS w [(B1,fullPk,adF (some ⟨g5,0,none⟩) cap5)] (W3.setCell ⟨B1,23,none⟩ (.slice (some ⟨g5,0,none⟩) 2 cap5))):=Lib.hid (by
  refine⟨L3.setCell (p:=⟨B1,23,none⟩) HW.out _,fun x hx=>?_⟩
  obtain rfl:=List.mem_singleton.1 hx
  refine⟨?_,q66c (hC5.kept (q99v W3 B1 23 _).size (fun g j e _=>heap_setCell_other W3 ⟨B1,23,none⟩ g _ ?_))⟩
  ·have:=qlvy G3.out 23 (.slice (some ⟨g5,0,none⟩) 2 cap5)
   exact this.trans (congrArg (fun z=>some (Obj.cells z 29 (0,0))) (q2bq (i:=1) (l:=[oneF]) (m:=[oneF,bF]) rfl))
  ·cases e;exact hat2)
 have k3:W3.cell? ⟨B1,23,none⟩=some (.slice (some ⟨g1,0,none⟩) 1 1):=cell_of_row _ _ 23 _ _ _ G3.out
 have f3:W3.frozen? ⟨B1,23,none⟩=false:=frozen_of_row _ _ _ _ _ G3.out
 clear hown3 hown2 hgrow hgrow2 hat hat2 hlt5 hsz hg1B L3 hC5 k23 hBB HBB hone hb2 L2 G2 HG1 HW0 HIF
 go_upto_region 5 with fail
 generalize W3.setCell ⟨B1,23,none⟩ (.slice (some ⟨g5,0,none⟩) 2 cap5)=W4 at *
 clear k3 f3 G3 HW
 have sF:q21o fullPk:=⟨Nat.zero_le _,(by decide:2≤70000),Nat.zero_le _,Nat.zero_le _⟩
 have oF:PkOk fullPk:=qdqr (fun x hx=>by
  rcases List.mem_cons.1 hx with rfl | hx
  ·decide
  ·obtain rfl:=List.mem_singleton.1 hx;decide)
 have HF:=Lib.hid (And.intro sF oF)
 have BF:=fun a W (h:PkAt W fullPk a)=>q7zk 5 fullPk a W h sF oF (Nat.zero_le _)
 rw[qs9x] at BF
 have BF:=Lib.hid (show ∀a W,PkAt W fullPk a→Calls Tryz.prog 10 #[.int .i64 5,.agg (pkC fullPk a)] W fun e w'=>e = .returned (.tuple #[.string ⟨#[0,1,0,0,3,97,47,35,2,0,1,98,45]⟩,.int .i64 0])∧Below W.heap.size W w' from BF)
 have HDF:=Lib.hid (fun a=>qwmp fullPk a)
 have HDF1:=Lib.hid (fun a=>qmz0 fullPk a)
 have RF:=fun W=>qmor 5 8 ⟨#[0,1,0,0,3,97,47,35,2,0,1,98,45]⟩ W (by decide) (by decide) (by decide) (qfe2 (by decide))
 rw[show q98d 5 8 (⟨#[0,1,0,0,3,97,47,35,2,0,1,98,45]⟩:ByteArray).data.toList=(fullPk,0) from qlcy] at RF
 have RF:=Lib.hid RF
 clear sF oF
 go_wp2_with (refine q2a5 rfl _ _ rfl B1 rfl 29 _ (0,0) _ (S4.out.at_ _ (List.mem_singleton.2 rfl)) Tryz.underlying29 rfl (by rw[HDF.out];exact q5nr) ?_)
 refine(BF.out _ _ (S4.out.pk _ (List.mem_singleton.2 rfl))).mono ?_
 rintro e W5 ⟨rfl,hb⟩
 have S5:=Lib.hid (S4.out.call hb)
 clear hb S4
 go_wp2_with fail
 refine(RF.out _).mono ?_
 rintro e W6 ⟨a6,rfl,at6,-,-,hb,-⟩
 have S6:=Lib.hid ((S5.out.call hb).put fullPk a6 at6)
 clear hb at6 S5
 go_upto_region 7 with (refine wpList_store_row rfl _ _ _ rfl W6.heap.size (pkC fullPk a6) rfl rfl 29 _ (heap_alloc_new W6 _) (by rw[HDF.out];exact q5nr) (by rw[HZ.out,HDF.out]) (HDF1.out _) ?_)
 generalize (W6.alloc (.cells pkZ 29)).setRow W6.heap.size (pkC fullPk a6)=W7 at *
 generalize W6.heap.size=B6 at *
 go_wp2_with fail
 refine(qv5v 4 8 ⟨#[0,1,0,1,98,4]⟩ (n:=7) (E:=7) (by decide) (by decide) qnow (by decide) rfl _).mono ?_
 rintro e V1 ⟨rfl,hb⟩
 have R1:=Lib.hid ((S6.out.call hb).call (qhum V1 pkZ))
 clear hb S6
 go_upto_region 8 with (refine wpList_store_row rfl _ _ _ rfl V1.heap.size pkZ rfl rfl 29 _ (heap_alloc_new V1 _) (by rw[HZ.out];exact q5nr) rfl PZ.out ?_)
 generalize (V1.alloc (.cells pkZ 29)).setRow V1.heap.size pkZ=U1 at *
 generalize V1.heap.size=J1 at *
 go_wp2_with fail
 refine(qv5v 5 8 ⟨#[0,1,0,0,1,98,64]⟩ (n:=7) (E:=7) (by decide) (by decide) qtoh (by decide) rfl _).mono ?_
 rintro e V2 ⟨rfl,hb⟩
 have R2:=Lib.hid ((R1.out.call hb).call (qhum V2 pkZ))
 clear hb R1
 go_upto_region 9 with (refine wpList_store_row rfl _ _ _ rfl V2.heap.size pkZ rfl rfl 29 _ (heap_alloc_new V2 _) (by rw[HZ.out];exact q5nr) rfl PZ.out ?_)
 generalize (V2.alloc (.cells pkZ 29)).setRow V2.heap.size pkZ=U2 at *
 generalize V2.heap.size=J2 at *
 go_wp2_with fail
 refine(qv5v 4 8 ⟨#[0,1]⟩ (n:=2) (E:=2) (by decide) (by decide) qvbn (by decide) rfl _).mono ?_
 rintro e V3 ⟨rfl,hb⟩
 have R3:=Lib.hid ((R2.out.call hb).call (qhum V3 pkZ))
 clear hb R2
 go_upto_region 10 with (refine wpList_store_row rfl _ _ _ rfl V3.heap.size pkZ rfl rfl 29 _ (heap_alloc_new V3 _) (by rw[HZ.out];exact q5nr) rfl PZ.out ?_)
 generalize (V3.alloc (.cells pkZ 29)).setRow V3.heap.size pkZ=U3 at *
 generalize V3.heap.size=J3 at *
 go_wp2_with fail
 refine(qv5v 4 8 ⟨#[0,1,0,1,98]⟩ (n:=3) (E:=3) (by decide) (by decide) qo02 (by decide) rfl _).mono ?_
 rintro e V4 ⟨rfl,hb⟩
 have R4:=Lib.hid ((R3.out.call hb).call (qhum V4 pkZ))
 clear hb R3
 go_upto_region 11 with (refine wpList_store_row rfl _ _ _ rfl V4.heap.size pkZ rfl rfl 29 _ (heap_alloc_new V4 _) (by rw[HZ.out];exact q5nr) rfl PZ.out ?_)
 generalize (V4.alloc (.cells pkZ 29)).setRow V4.heap.size pkZ=U4 at *
 generalize V4.heap.size=J4 at *
 go_wp2_with fail
 refine(qv5v 4 8 ⟨#[0,1,0,2,98,43,0]⟩ (n:=10) (E:=10) (by decide) (by decide) qa53 (by decide) rfl _).mono ?_
 rintro e V5 ⟨rfl,hb⟩
 have R5:=Lib.hid ((R4.out.call hb).call (qhum V5 pkZ))
 clear hb R4
 go_upto_region 12 with (refine wpList_store_row rfl _ _ _ rfl V5.heap.size pkZ rfl rfl 29 _ (heap_alloc_new V5 _) (by rw[HZ.out];exact q5nr) rfl PZ.out ?_)
 generalize (V5.alloc (.cells pkZ 29)).setRow V5.heap.size pkZ=U5 at *
 generalize V5.heap.size=J5 at *
 go_wp2_with fail
 refine(qv5v 4 8 ⟨#[0,1,0,1,98,3]⟩ (n:=2) (E:=2) (by decide) (by decide) qw58 (by decide) rfl _).mono ?_
 rintro e V6 ⟨rfl,hb⟩
 have R6:=Lib.hid ((R5.out.call hb).call (qhum V6 pkZ))
 clear hb R5
 go_upto_region 13 with (refine wpList_store_row rfl _ _ _ rfl V6.heap.size pkZ rfl rfl 29 _ (heap_alloc_new V6 _) (by rw[HZ.out];exact q5nr) rfl PZ.out ?_)
 generalize (V6.alloc (.cells pkZ 29)).setRow V6.heap.size pkZ=U6 at *
 generalize V6.heap.size=J6 at *
 go_wp2_with fail
 refine(qv5v 5 8 ⟨#[0,1,0,0,1,98,48]⟩ (n:=2) (E:=2) (by decide) (by decide) qi0n (by decide) rfl _).mono ?_
 rintro e V7 ⟨rfl,hb⟩
 have R7:=Lib.hid ((R6.out.call hb).call (qhum V7 pkZ))
 clear hb R6
 go_upto_region 14 with (refine wpList_store_row rfl _ _ _ rfl V7.heap.size pkZ rfl rfl 29 _ (heap_alloc_new V7 _) (by rw[HZ.out];exact q5nr) rfl PZ.out ?_)
 generalize (V7.alloc (.cells pkZ 29)).setRow V7.heap.size pkZ=U7 at *
 generalize V7.heap.size=J7 at *
 have Dg:=Lib.hid (fun n=>qwmp gotPk (adC (some ⟨n,0,none⟩) 1))
 have Dg1:=Lib.hid (fun n=>qmz0 gotPk (adC (some ⟨n,0,none⟩) 1))
 have Du:=Lib.hid (fun n=>qwmp unPk (adF (some ⟨n,0,none⟩) 1))
 have Du1:=Lib.hid (fun n=>qmz0 unPk (adF (some ⟨n,0,none⟩) 1))
 have De:=Lib.hid (qwmp gonePk adZ)
 have De1:=Lib.hid (qmz0 gonePk adZ)
 have Ra:=Lib.hid (R7.out.made (.cells #[.int .i64 2] 3) gotPk (adC (some ⟨U7.heap.size,0,none⟩) 1) (q4lq (CL.of_cells (heap_alloc_new U7 _) (fun j u hu=>by rw[←hu,←Array.getElem?_toList];rfl))))
 clear R7
 go_upto_region 15 with (first
  | (refine wpList_buildTo rfl 29 _ rfl (some _) rfl (pkC gotPk (adC (some ⟨U7.heap.size,0,none⟩) 1)) (by kernel_rfl) ?_)
  | (refine wpList_store_row rfl _ _ _ rfl (U7.heap.size+1) (pkC gotPk (adC (some ⟨U7.heap.size,0,none⟩) 1)) rfl rfl 29 _ (heap_alloc2_new _ _ _) (by rw[Dg.out];exact q5nr) (by rw[HZ.out,Dg.out]) (Dg1.out _) ?_))
 generalize ((U7.alloc (.cells #[.int .i64 2] 3)).alloc (.cells pkZ 29)).setRow (U7.heap.size+1) (pkC gotPk (adC (some ⟨U7.heap.size,0,none⟩) 1))=Wa at *
 generalize U7.heap.size=na at *
 have Rb:=Lib.hid (Ra.out.made (.cells #[.string ⟨#[97]⟩,.int .i64 0,.bool false,.bool false,.int .i64 0] 32) unPk (adF (some ⟨Wa.heap.size,0,none⟩) 1) ⟨fun e=>absurd rfl e,fun e=>absurd rfl e,CL.of_cells (heap_alloc_new Wa _) (fun j u hu=>by rw[←hu,←Array.getElem?_toList];rfl),fun e=>absurd rfl e⟩)
 clear Ra
 go_upto_region 16 with (first
  | (refine wpList_buildTo rfl 29 _ rfl (some _) rfl (pkC unPk (adF (some ⟨Wa.heap.size,0,none⟩) 1)) (by kernel_rfl) ?_)
  | (refine wpList_store_row rfl _ _ _ rfl (Wa.heap.size+1) (pkC unPk (adF (some ⟨Wa.heap.size,0,none⟩) 1)) rfl rfl 29 _ (heap_alloc2_new _ _ _) (by rw[Du.out];exact q5nr) (by rw[HZ.out,Du.out]) (Du1.out _) ?_))
 generalize ((Wa.alloc (.cells #[.string ⟨#[97]⟩,.int .i64 0,.bool false,.bool false,.int .i64 0] 32)).alloc (.cells pkZ 29)).setRow (Wa.heap.size+1) (pkC unPk (adF (some ⟨Wa.heap.size,0,none⟩) 1))=Wb at *
 generalize Wa.heap.size=nb at *
 have sU:q21o unPk:=⟨Nat.zero_le _,(by decide:1≤70000),Nat.zero_le _,Nat.zero_le _⟩
 have oU:PkOk unPk:=⟨by decide,by decide,fun t ht=>by
  have:t=[]:=by simpa [Pk.texts,Pk.zero,unPk] using ht
  rw[this];decide,fun x hx=>(nomatch hx),fun x hx=>(nomatch hx),fun x hx=>by obtain rfl:=List.mem_singleton.1 hx;decide⟩
 have HU:=Lib.hid (And.intro sU oU)
 have bareE:=qeln (p:=gonePk) (by decide+kernel)
 have HE:=Lib.hid bareE
 have BU:=fun a W (h:PkAt W unPk a)=>q7zk 4 unPk a W h sU oU (Nat.zero_le _)
 rw[q0ba] at BU
 have BU:=Lib.hid (show ∀a W,PkAt W unPk a→Calls Tryz.prog 10 #[.int .i64 4,.agg (pkC unPk a)] W fun e w'=>e = .returned (.tuple #[.string ⟨#[0,1,0,1,97]⟩,.int .i64 0])∧Below W.heap.size W w' from BU)
 have BE:=fun W=>q7zk 4 gonePk adZ W (bareE.1 W) bareE.2.1 bareE.2.2.1 (Nat.zero_le _)
 rw[qd9q] at BE
 have BE:=Lib.hid (show ∀W,Calls Tryz.prog 10 #[.int .i64 4,.agg (pkC gonePk adZ)] W fun e w'=>e = .returned (.tuple #[.string ⟨#[0,1]⟩,.int .i64 0])∧Below W.heap.size W w' from BE)
 clear sU oU bareE
 go_wp2_with (refine q2a5 rfl _ _ rfl (nb+1) rfl 29 _ (0,0) _ (Rb.out.at_ _ (.head _)) Tryz.underlying29 rfl (by rw[Du.out];exact q5nr) ?_)
 refine(BU.out _ _ (Rb.out.pk _ (.head _))).mono ?_
 rintro e Wc ⟨rfl,hb⟩
 have Rc:=Lib.hid (Rb.out.call hb)
 clear hb Rb
 have Rd:=Lib.hid (Rc.out.put gonePk adZ (HE.out.1 _))
 go_upto_region 18 with (first
  | (refine wpList_buildTo rfl 29 _ rfl (some _) rfl (pkC gonePk adZ) (by kernel_rfl) ?_)
  | (refine wpList_store_row rfl _ _ _ rfl Wc.heap.size (pkC gonePk adZ) rfl rfl 29 _ (heap_alloc_new Wc _) (by rw[De.out];exact q5nr) (by rw[HZ.out,De.out]) De1.out ?_))
 clear Rc
 generalize (Wc.alloc (.cells pkZ 29)).setRow Wc.heap.size (pkC gonePk adZ)=Wd at *
 generalize Wc.heap.size=Bd at *
 go_wp2_with (refine q2a5 rfl _ _ rfl Bd rfl 29 _ (0,0) _ (Rd.out.at_ _ (.head _)) Tryz.underlying29 rfl (by rw[De.out];exact q5nr) ?_)
 refine(BE.out _).mono ?_
 rintro e We ⟨rfl,hb⟩
 have Re:=Lib.hid (Rd.out.call hb)
 clear hb Rd
 go_wp2_with fail
 refine(q43p _).mono ?_
 rintro e Wf ⟨gf,rfl,-,-,-,hb⟩
 have Rf:=Lib.hid (Re.out.call hb)
 clear hb Re
 have D1f:=Lib.hid (qwmp qucf (adF (some ⟨gf,0,none⟩) 1))
 have D2f:=Lib.hid (qmz0 qucf (adF (some ⟨gf,0,none⟩) 1))
 have b2:=Lib.hid (qhum Wf (pkC qucf (adF (some ⟨gf,0,none⟩) 1)))
 have G2f:=Lib.hid (setRow_heap _ _ _ (pkC qucf (adF (some ⟨gf,0,none⟩) 1)) _ _ (heap_alloc_new Wf (.cells pkZ 29)))
 go_upto_region 20 with (refine wpList_store_row rfl _ _ _ rfl Wf.heap.size (pkC qucf (adF (some ⟨gf,0,none⟩) 1)) rfl rfl 29 _ (heap_alloc_new Wf _) (by rw[D1f.out];exact q5nr) (by rw[HZ.out,D1f.out]) D2f.out ?_)
 generalize (Wf.alloc (.cells pkZ 29)).setRow Wf.heap.size (pkC qucf (adF (some ⟨gf,0,none⟩) 1))=V2 at *
 have Rg:=Lib.hid (Rf.out.patch b2.out (p:=sharedPk) (cs:=#[.string ⟨#[36,115,104,97,114,101,47,103,47,97]⟩,.int .i64 0,.bool true,.bool false,.int .i64 0]) (Nat.le_refl _) G2f.out (q2bq (i:=1) (l:=[oneF]) (m:=[shF]) rfl) rfl rfl rfl rfl)
 generalize Wf.heap.size=Bf at *
 have kA:(V2.alloc (.cells #[.string ⟨#[36,115,104,97,114,101,47,103,47,97]⟩,.int .i64 0,.bool true,.bool false,.int .i64 0] 32)).cell? ⟨Bf,23,none⟩=some (.slice (some ⟨gf,0,none⟩) 1 1):=cell_of_row _ _ 23 _ _ _ ((heap_alloc_old V2 _ (lt_of_block G2f.out)).trans G2f.out)
 have fA:(V2.alloc (.cells #[.string ⟨#[36,115,104,97,114,101,47,103,47,97]⟩,.int .i64 0,.bool true,.bool false,.int .i64 0] 32)).frozen? ⟨Bf,23,none⟩=false:=frozen_of_row _ _ _ _ _ ((heap_alloc_old V2 _ (lt_of_block G2f.out)).trans G2f.out)
 clear Rf b2
 go_upto_region 21 with fail
 generalize (V2.alloc (.cells #[.string ⟨#[36,115,104,97,114,101,47,103,47,97]⟩,.int .i64 0,.bool true,.bool false,.int .i64 0] 32)).setCell ⟨Bf,23,none⟩ (.slice (some ⟨V2.heap.size,0,none⟩) 1 1)=Wg at *
 generalize V2.heap.size=nf at *
 clear kA fA G2f
 have Ds:=Lib.hid (qwmp sharedPk (adF (some ⟨nf,0,none⟩) 1))
 have b3:=Lib.hid (qhum Wg (pkC unPk (adF (some ⟨nb,0,none⟩) 1)))
 have G3f:=Lib.hid (setRow_heap _ _ _ (pkC unPk (adF (some ⟨nb,0,none⟩) 1)) _ _ (heap_alloc_new Wg (.cells pkZ 29)))
 go_upto_region 22 with (first
  | (refine q2a5 rfl _ _ rfl (nb+1) rfl 29 _ (0,0) _ (Rg.out.at_ _ (.tail _ (.tail _ (.head _)))) Tryz.underlying29 rfl (by rw[Du.out];exact q5nr) ?_)
  | (refine wpList_store_row rfl _ _ _ rfl Wg.heap.size (pkC unPk (adF (some ⟨nb,0,none⟩) 1)) rfl rfl 29 _ (heap_alloc_new Wg _) (by rw[Du.out];exact q5nr) (by rw[HZ.out,Du.out]) (Du1.out _) ?_))
 generalize (Wg.alloc (.cells pkZ 29)).setRow Wg.heap.size (pkC unPk (adF (some ⟨nb,0,none⟩) 1))=V3 at *
 have Rh:=Lib.hid (Rg.out.patch b3.out (p:=badPk) (cs:=#[.string ⟨#[97]⟩,.int .i64 1,.bool false,.bool false,.int .i64 0]) (Nat.le_refl _) G3f.out rfl rfl rfl rfl rfl)
 generalize Wg.heap.size=Bh at *
 have kA:(V3.alloc (.cells #[.string ⟨#[97]⟩,.int .i64 1,.bool false,.bool false,.int .i64 0] 32)).cell? ⟨Bh,23,none⟩=some (.slice (some ⟨nb,0,none⟩) 1 1):=cell_of_row _ _ 23 _ _ _ ((heap_alloc_old V3 _ (lt_of_block G3f.out)).trans G3f.out)
 have fA:(V3.alloc (.cells #[.string ⟨#[97]⟩,.int .i64 1,.bool false,.bool false,.int .i64 0] 32)).frozen? ⟨Bh,23,none⟩=false:=frozen_of_row _ _ _ _ _ ((heap_alloc_old V3 _ (lt_of_block G3f.out)).trans G3f.out)
 have Db:=Lib.hid (qwmp badPk (adF (some ⟨V3.heap.size,0,none⟩) 1))
 have OP:=fun W=>q3gr bF W
 rw[qubc] at OP
 have OP:=Lib.hid (show ∀W,Calls Tryz.prog 13 #[.agg #[.string ⟨#[98]⟩,.int .i64 1,.bool true,.bool true,.int .i64 2]] W fun e w'=>e = .returned (.int .i64 45)∧Below W.heap.size W w' from OP)
 have SG:Hid (∀j,q21o (ansS 1 [j])∧PkOk (ansS 1 [j])):=Lib.hid (fun j=>⟨⟨(by decide:1≤70000),Nat.zero_le _,Nat.zero_le _,Nat.zero_le _⟩,qbm8⟩)
 have SS:Hid (q21o sharedPk∧PkOk sharedPk):=Lib.hid ⟨⟨Nat.zero_le _,(by decide:1≤70000),Nat.zero_le _,Nat.zero_le _⟩,qdqr (fun x hx=>by obtain rfl:=List.mem_singleton.1 hx;decide)⟩
 have SB:Hid (q21o badPk∧PkOk badPk):=Lib.hid ⟨⟨Nat.zero_le _,(by decide:1≤70000),Nat.zero_le _,Nat.zero_le _⟩,⟨by decide,by decide,fun t ht=>by
  have:t=[]:=by simpa [Pk.texts,Pk.zero,badPk] using ht
  rw[this];decide,fun x hx=>(nomatch hx),fun x hx=>(nomatch hx),fun x hx=>by obtain rfl:=List.mem_singleton.1 hx;decide⟩⟩
 have AN:=Lib.hid (fun v p q a b W (hp:PkAt W p a) (hq:PkAt W q b) (sp:q21o p∧PkOk p) (sq:q21o q∧PkOk q) (h1:p.props=[]) (h2:q.props=[]) (r:Bool) (hr:qoit v p q=r)=>(show Calls Tryz.prog 14 #[.int .i64 v,.agg (pkC p a),.agg (pkC q b)] W fun e w'=>e = .returned (.bool r)∧Below W.heap.size W w' from by
  rw[←hr];exact qy40 v p q a b W hp hq sp.1 sq.1 sp.2 sq.2 (by rw[h1];exact Nat.zero_le _) (by rw[h2];exact Nat.zero_le _)))
 have VA:=Lib.hid (fun v p a W (hp:PkAt W p a) (sp:q21o p∧PkOk p) (h1:p.props=[]) (hr:q3m2 v p=2)=>(show Calls Tryz.prog 15 #[.int .i64 v,.agg (pkC p a)] W fun e w'=>e = .returned (.int .i64 2)∧Below W.heap.size W w' from by
  have:=qeuk v p a W hp sp.1 sp.2 (by rw[h1];exact Nat.zero_le _)
  rw[hr] at this;exact this))
 clear Rg b3
 go_upto_region 23 with fail
 generalize (V3.alloc (.cells #[.string ⟨#[97]⟩,.int .i64 1,.bool false,.bool false,.int .i64 0] 32)).setCell ⟨Bh,23,none⟩ (.slice (some ⟨V3.heap.size,0,none⟩) 1 1)=X0 at *
 generalize V3.heap.size=nh at *
 clear kA fA
 refine qijv (T:=fun W=>RwS w [(Bh,badPk,adF (some ⟨nh,0,none⟩) 1),(Bf,sharedPk,adF (some ⟨nf,0,none⟩) 1),(Bd,gonePk,adZ),(nb+1,unPk,adF (some ⟨nb,0,none⟩) 1),(na+1,gotPk,adC (some ⟨na,0,none⟩) 1),(B6,fullPk,a6),(B1,fullPk,adF (some ⟨g5,0,none⟩) cap5)] W) (gF:=g5) (cF:=cap5)
  (Rh.out.call (Below.refl _ _).drew) (fun W W' h b=>h.call b) rfl rfl rfl (HDF.out _) (HDF.out _) (Dg.out _) (Du.out _) De.out Ds.out Db.out
  (fun W h=>h.at_ _ (.tail _ (.tail _ (.tail _ (.tail _ (.tail _ (.tail _ (.head _)))))))) (fun W h=>h.at_ _ (.tail _ (.tail _ (.tail _ (.tail _ (.tail _ (.head _))))))) (fun W h=>h.at_ _ (.tail _ (.tail _ (.tail _ (.tail _ (.head _)))))) (fun W h=>h.at_ _ (.tail _ (.tail _ (.tail _ (.head _))))) (fun W h=>h.at_ _ (.tail _ (.tail _ (.head _)))) (fun W h=>h.at_ _ (.tail _ (.head _))) (fun W h=>h.at_ _ (.head _))
  (fun W h=>cell_of_row _ _ 23 _ _ _ (h.at_ _ (.tail _ (.tail _ (.tail _ (.tail _ (.tail _ (.tail _ (.head _)))))))))
  (fun W h=>qabm (i:=0) (j:=5) (h.pk _ (.tail _ (.tail _ (.tail _ (.tail _ (.tail _ (.tail _ (.head _)))))))).fs rfl) (fun W h=>qabm (i:=0) (j:=6) (h.pk _ (.tail _ (.tail _ (.tail _ (.tail _ (.tail _ (.tail _ (.head _)))))))).fs rfl) (fun W h=>qabm (i:=0) (j:=7) (h.pk _ (.tail _ (.tail _ (.tail _ (.tail _ (.tail _ (.tail _ (.head _)))))))).fs rfl) (fun W h=>qabm (i:=0) (j:=8) (h.pk _ (.tail _ (.tail _ (.tail _ (.tail _ (.tail _ (.tail _ (.head _)))))))).fs rfl) (fun W h=>qabm (i:=0) (j:=9) (h.pk _ (.tail _ (.tail _ (.tail _ (.tail _ (.tail _ (.tail _ (.head _)))))))).fs rfl)
  (fun W h=>(q43p W).mono fun e w' hh=>by obtain⟨gk,he,hck,-,-,hb⟩:=hh;exact⟨gk,he,q66c hck,hb⟩)
  (fun W g h hp=>AN.out 4 qucf gotPk _ _ W hp (h.pk _ (.tail _ (.tail _ (.tail _ (.tail _ (.head _)))))) ⟨qppj,qwd9⟩ (SG.out 2) rfl rfl true qbgd)
  (fun W g h hp=>VA.out 4 qsdj _ W hp (SG.out 3) rfl qz9e)
  (fun W h=>qwwg fullPk a6 (adF (some ⟨g5,0,none⟩) cap5) HF.out.1 W (h.pk _ (.tail _ (.tail _ (.tail _ (.tail _ (.tail _ (.head _))))))) (h.pk _ (.tail _ (.tail _ (.tail _ (.tail _ (.tail _ (.tail _ (.head _)))))))))
  (fun W _=>OP.out W)
  (fun W h=>AN.out 4 fullPk gotPk _ _ W (h.pk _ (.tail _ (.tail _ (.tail _ (.tail _ (.tail _ (.tail _ (.head _)))))))) (h.pk _ (.tail _ (.tail _ (.tail _ (.tail _ (.head _)))))) HF.out (SG.out 2) rfl rfl false qx43)
  (fun W h=>AN.out 4 gotPk gotPk _ _ W (h.pk _ (.tail _ (.tail _ (.tail _ (.tail _ (.head _)))))) (h.pk _ (.tail _ (.tail _ (.tail _ (.tail _ (.head _)))))) (SG.out 2) (SG.out 2) rfl rfl false qrbx)
  (fun W h=>AN.out 4 unPk gonePk _ _ W (h.pk _ (.tail _ (.tail _ (.tail _ (.head _))))) (h.pk _ (.tail _ (.tail _ (.head _)))) HU.out ⟨HE.out.2.1,HE.out.2.2.1⟩ rfl rfl true qks1)
  (fun W h=>AN.out 5 unPk gonePk _ _ W (h.pk _ (.tail _ (.tail _ (.tail _ (.head _))))) (h.pk _ (.tail _ (.tail _ (.head _)))) HU.out ⟨HE.out.2.1,HE.out.2.2.1⟩ rfl rfl false qmz8)
  (fun W h=>VA.out 5 gonePk _ W (h.pk _ (.tail _ (.tail _ (.head _)))) ⟨HE.out.2.1,HE.out.2.2.1⟩ rfl qe0t)
  (fun W h=>VA.out 5 sharedPk _ W (h.pk _ (.tail _ (.head _))) SS.out rfl qorc)
  (fun W h=>VA.out 5 badPk _ W (h.pk _ (.head _)) SB.out rfl qy0d)
  (fun W h=>VA.out 4 fullPk _ W (h.pk _ (.tail _ (.tail _ (.tail _ (.tail _ (.tail _ (.tail _ (.head _)))))))) HF.out rfl qdt3) ?_
 intro v1 v2 v3 W h
 have LO:=Lib.hid h.low
 clear h
 go_wp2_with fail
 go_ret
 exact⟨rfl,LO.out⟩
end Go.Proofs.YtbecggefmbpnoaaGreatDoor
