/- The contracts of connect's usedWill and used: a packet with just what it may have. Condition: none. -/
import Derived.Deep.CutBlock
import Derived.Great.Frames
import Derived.Test.YtefmhbioggcfaaaGreatDoorK17
import Derived.Test.YtefmhbioggcfaaaGreatDoorK12
set_option maxRecDepth 100000
set_option maxHeartbeats 4000000
namespace Go.Proofs.YtefmhbioggcfaaaGreatDoor
open Lib(hid)
open Proofs.Tryz
open Go.RowKit
theorem qwk1:(prog.info? 34).map (·.size)=some 5:=by kernel_rfl
theorem qbtu(v:Int)(t y:ByteArray)(q:Int)(r:Bool)(A:Option Addr)(n c:Nat)(w:World) :
 Calls prog 230 #[.int .i64 v,.agg #[.string t,.string y,.int .i64 q,.bool r,.slice A n c]] w fun e w'=>e=.returned (.agg #[.string t,.string y,.int .i64 q,.bool r,.slice (if v=5 then A else none) (if v=5 then n else 0) (if v=5 then c else 0)])/\Below w.heap.size w w':=by
 by_cases h5:v=5
 ·subst h5;go_in;go_wp2_with fail;exact q7wi (cs:=#[.string t,.string y,.int .i64 q,.bool r,.slice A n c]) rfl rfl rfl underlying34 rfl qwk1 (heap_alloc2_new _ _ _) ⟨rfl,qxh2 (qybm _) (qybm _)⟩
 ·have h5':(v==5)=false:=beq_eq_false_iff_ne.2 h5;rw[if_neg h5,if_neg h5,if_neg h5];clear h5;go_in;go_wp2_with fail;exact q7wi (cs:=#[.string t,.string y,.int .i64 q,.bool r,.slice none 0 0]) rfl rfl rfl underlying34 rfl qwk1 (heap_alloc2_new _ _ _) ⟨rfl,qxh2 (qybm _) (qybm _)⟩
def us0(p:Pk):Pk:={Pk.zero with kind:=p.kind}
def us1(v:Int)(p:Pk):Pk:={Pk.zero with kind:=p.kind,props:=if v=5 then p.props else []}
def us1A(v:Int)(a:Ad):Ad:={adZ with ps:=if v=5 then a.ps else none,pc:=if v=5 then a.pc else 0}
def us2(v:Int)(p:Pk):Pk:={us1 v p with session:=p.session,code:=p.code}
def us3(v:Int)(p:Pk):Pk:={us1 v p with clean:=p.clean,keep:=p.keep,client:=p.client,hasWill:=p.hasWill,hasUser:=p.hasUser,hasPass:=p.hasPass}
def us4(v:Int)(p:Pk):Pk:={us3 v p with wTopic:=if p.hasWill then p.wTopic else [],wPayload:=if p.hasWill then p.wPayload else [],wQos:=if p.hasWill then p.wQos else 0,wRetain:=if p.hasWill then p.wRetain else false,wProps:=if p.hasWill then(if v=5 then p.wProps else []) else []}
def us4A(v:Int)(p:Pk)(a:Ad):Ad:={us1A v a with w:=if p.hasWill then(if v=5 then a.w else none) else none,wc:=if p.hasWill then(if v=5 then a.wc else 0) else 0}
def us5(v:Int)(p:Pk):Pk:={us4 v p with user:=if p.hasUser then p.user else []}
def us6(v:Int)(p:Pk):Pk:={us5 v p with pass:=if p.hasPass then p.pass else []}
def q8po(v:Int)(p:Pk):Pk:=if p.kind=2 then us2 v p else us6 v p
def qyxc(v:Int)(p:Pk)(a:Ad):Ad:=if p.kind=2 then us1A v a else us4A v p a
theorem qhin(v:Int)(p:Pk)(a:Ad)(w:World) :
 Calls prog 185 #[.int .i64 v,pkV p a] w fun e w'=>e=.returned (pkV (q8po v p) (qyxc v p a))/\Below w.heap.size w w':=by
 have Z0:((w.alloc (.cells (pkC p a) 38)).alloc (.cells pkZ 38)).heap.size=w.heap.size+1+1:=by simp
 have GN:(((w.alloc (.cells (pkC p a) 38)).alloc (.cells pkZ 38)).alloc (.cells pkZ 38)).heap[w.heap.size+1+1]?=some (.cells pkZ 38 (0,0)):=by
  have:=heap_alloc_new ((w.alloc (.cells (pkC p a) 38)).alloc (.cells pkZ 38)) (.cells pkZ 38)
  rw[Z0] at this;exact this
 have S0:UsS w p a (us0 p) adZ ((((w.alloc (.cells (pkC p a) 38)).alloc (.cells pkZ 38)).alloc (.cells pkZ 38)).setRow (w.heap.size+1+1) (pkC (us0 p) adZ)):=by
  refine⟨q8xz (qxh2 (qxh2 (qybm _) (qybm _)) (qybm _)) (by omega) _,?_,?_,setRow_heap _ _ _ _ _ _ GN⟩
  ·exact(setRow_other _ _ _ _ (by omega)).trans ((heap_alloc_old _ _ (by rw[Z0];omega)).trans (heap_alloc2_old _ _ _))
  ·exact(setRow_other _ _ _ _ (by omega)).trans ((heap_alloc_old _ _ (by rw[Z0];omega)).trans (heap_alloc2_new _ _ _))
 have hzv:=qrai;have hne:¬pkZ=#[]:=by intro h;have:=qbwp;rw[h] at this;cases this
 have HZ:=hid qbwp;have GN:=hid GN;have hD1:=qwmp (us0 p) adZ;have hD2:=qmz0 (us0 p) adZ;obtain⟨D,hD⟩:∃D,pkC (us0 p) adZ=D:=⟨_,rfl⟩
 rw[hD] at hD1 hD2 S0;have HD:=hid hD;have HD1:=hid hD1;have HD2:=hid hD2;have HS0:=hid S0;obtain⟨R,hR⟩:∃R,pkC (q8po v p) (qyxc v p a)=R:=⟨_,rfl⟩
 have HR:=hid hR;unfold pkV;rw[hR];clear hR;have K0:((w.alloc (.cells (pkC p a) 38)).alloc (.cells pkZ 38)).cell? ⟨w.heap.size,0,none⟩=some (.int .i64 p.kind):=cell_of_row _ _ 0 _ _ _ (heap_alloc2_old _ _ _);clear S0 hD hD1 hD2 Z0;go_in
 go_upto_if 10 with (first
  |(refine wpList_buildTo rfl 38 _ rfl (some 8) rfl D (by rw[<-HD.out];kernel_rfl) ?_)
  |(refine wpList_store_row rfl _ _ _ rfl (w.heap.size+1+1) D rfl rfl 38 _ GN.out (by rw[HD1.out];exact q5nr) (by rw[HZ.out,HD1.out]) HD2.out ?_))
 clear K0 GN HZ hne hzv;go_cut [] (fun wx=>UsS w p a (us1 v p) (us1A v a) wx)
 case first=>
  generalize (((w.alloc (.cells (pkC p a) 38)).alloc (.cells pkZ 38)).alloc (.cells pkZ 38)).setRow (w.heap.size+1+1) D=W at *;by_cases h5:v=5
  ·subst h5;have S1:=hid (HS0.out.put 24 (.slice a.ps p.props.length a.pc) (x':=us1 5 p) (b':=us1A 5 a) rfl);have k24:W.cell? ⟨w.heap.size,24,none⟩=some (.slice a.ps p.props.length a.pc):=HS0.out.cell 24;have n24:W.cell? ⟨w.heap.size+1+1,24,none⟩=some (.slice none 0 0):=HS0.out.ncell 24;have f24:=HS0.out.fr 24;clear HS0 GN;go_wp2_with fail
   go_meet
   exact S1.out
  ·have h5':(v==5)=false:=beq_eq_false_iff_ne.2 h5;have SB:=hid (show UsS w p a (us1 v p) (us1A v a) W by rw[us1,us1A,if_neg h5,if_neg h5,if_neg h5];exact HS0.out);clear HS0 h5 GN;go_wp2_with fail
   go_meet
   exact SB.out
 case rest=>
  have HS:=hid hcut;clear hcut HS0 GN;have k0:wc.cell? ⟨w.heap.size,0,none⟩=some (.int .i64 p.kind):=HS.out.cell 0;by_cases h2:p.kind=2
  ·rw[q8po,qyxc,if_pos h2,if_pos h2] at HR;rw[h2] at k0;clear h2;have k20:wc.cell? ⟨w.heap.size,20,none⟩=some (.bool p.session):=HS.out.cell 20;have k21:wc.cell? ⟨w.heap.size,21,none⟩=some (.int .i64 p.code):=HS.out.cell 21;have n20:wc.cell? ⟨w.heap.size+1+1,20,none⟩=some (.bool false):=HS.out.ncell 20;have f20:=HS.out.fr 20;have n21:wc.cell? ⟨w.heap.size+1+1,21,none⟩=some (.int .i64 0):=HS.out.ncell 21;have f21:=HS.out.fr 21;have S5:=hid ((HS.out.put 20 (.bool p.session) (x':={us1 v p with session:=p.session}) (b':=us1A v a) rfl).put 21 (.int .i64 p.code) (x':=us2 v p) (b':=us1A v a) rfl)
   go_upto_region 5 with fail
   go_cut [] (fun wx=>UsS w p a (us2 v p) (us1A v a) wx)
   case first=>
    go_region
    go_wp2_with fail
    go_meet
    exact S5.out.drew
   case rest=>
    have HS:=hid hcut;clear hcut k0 k20 k21 n20 n21 f20 f21 S5;have GB:=HS.out.new;rw[HR.out] at GB;have GB:=hid GB;have GR:=hid HS.out.res;have LO:=hid HS.out.low;have hR1:=qwmp (us2 v p) (us1A v a);have hR2:=qmz0 (us2 v p) (us1A v a);rw[HR.out] at hR1 hR2;have HR1:=hid hR1;have HR2:=hid hR2;clear hR1 hR2 HS;go_wp2_with (first
     |(refine wpList_load_row rfl _ _ rfl (w.heap.size+1+1) rfl 38 R (0,0) _ GB.out underlying38 rfl (by rw[HR1.out];exact q5nr) ?_)
     |(refine wpList_store_row rfl _ _ _ rfl (w.heap.size+1) R rfl rfl 38 _ GR.out (by rw[HR1.out];exact q5nr) (by rw[qbwp,HR1.out]) HR2.out ?_))
    exact q7wi (cs:=R) rfl rfl rfl underlying38 rfl (by rw[HR1.out];exact q5nr) (setRow_heap _ _ _ _ _ _ GR.out) ⟨rfl,q8xz LO.out (by omega) _⟩
  ·rw[q8po,qyxc,if_neg h2,if_neg h2] at HR;have h2':(p.kind==2)=false:=beq_eq_false_iff_ne.2 h2;clear h2;have k7:wc.cell? ⟨w.heap.size,7,none⟩=some (.bool p.clean):=HS.out.cell 7;have k8:wc.cell? ⟨w.heap.size,8,none⟩=some (.int .i64 p.keep):=HS.out.cell 8;have k9:wc.cell? ⟨w.heap.size,9,none⟩=some (.string (bs p.client)):=HS.out.cell 9;have n7:wc.cell? ⟨w.heap.size+1+1,7,none⟩=some (.bool false):=HS.out.ncell 7;have f7:=HS.out.fr 7;have n8:wc.cell? ⟨w.heap.size+1+1,8,none⟩=some (.int .i64 0):=HS.out.ncell 8;have f8:=HS.out.fr 8;have n9:wc.cell? ⟨w.heap.size+1+1,9,none⟩=some (.string ⟨#[]⟩):=HS.out.ncell 9;have f9:=HS.out.fr 9;have S7:=hid (((HS.out.put 7 (.bool p.clean) (x':={us1 v p with clean:=p.clean}) (b':=us1A v a) rfl).put 8 (.int .i64 p.keep) (x':={us1 v p with clean:=p.clean,keep:=p.keep}) (b':=us1A v a) rfl).put 9 (.string (bs p.client)) (x':={us1 v p with clean:=p.clean,keep:=p.keep,client:=p.client}) (b':=us1A v a) rfl)
   go_upto_region 7 with fail
   go_cut [] (fun wx=>UsS w p a {us1 v p with clean:=p.clean,keep:=p.keep,client:=p.client} (us1A v a) wx)
   case first=>
    go_region
    go_wp2_with fail
    go_meet
    exact S7.out.drew
   case rest=>
    clear k0 k7 k8 k9 n7 n8 n9 f7 f8 f9 S7 HS h2';rename_i wc';have HS:=hid hcut;clear hcut;have k14:wc.cell? ⟨w.heap.size,14,none⟩=some (.bool p.hasWill):=HS.out.cell 14;have k10:wc.cell? ⟨w.heap.size,10,none⟩=some (.bool p.hasUser):=HS.out.cell 10;have k12:wc.cell? ⟨w.heap.size,12,none⟩=some (.bool p.hasPass):=HS.out.cell 12;have n14:wc.cell? ⟨w.heap.size+1+1,14,none⟩=some (.bool false):=HS.out.ncell 14;have f14:=HS.out.fr 14;have n10:wc.cell? ⟨w.heap.size+1+1,10,none⟩=some (.bool false):=HS.out.ncell 10;have f10:=HS.out.fr 10;have n12:wc.cell? ⟨w.heap.size+1+1,12,none⟩=some (.bool false):=HS.out.ncell 12;have f12:=HS.out.fr 12;have S8:=hid (((HS.out.put 14 (.bool p.hasWill) (x':={us1 v p with clean:=p.clean,keep:=p.keep,client:=p.client,hasWill:=p.hasWill}) (b':=us1A v a) rfl).put 10 (.bool p.hasUser) (x':={us1 v p with clean:=p.clean,keep:=p.keep,client:=p.client,hasWill:=p.hasWill,hasUser:=p.hasUser}) (b':=us1A v a) rfl).put 12 (.bool p.hasPass) (x':=us3 v p) (b':=us1A v a) rfl)
    go_upto_region 8 with fail
    go_cut [] (fun wx=>UsS w p a (us3 v p) (us1A v a) wx)
    case first=>
     go_region
     go_wp2_with fail
     go_meet
     exact S8.out.drew
    case rest=>
     clear HS k14 k10 k12 n14 n10 n12 f14 f10 f12 S8;have HS:=hid hcut;clear hcut;have k14:wc.cell? ⟨w.heap.size,14,none⟩=some (.bool p.hasWill):=HS.out.cell 14
     go_upto_if 43 with fail
     go_cut [] (fun wx=>UsS w p a (us4 v p) (us4A v p a) wx)
     case first=>
      cases hw:p.hasWill with
      |false=>
       have S4:=hid (show UsS w p a (us4 v p) (us4A v p a) _ by unfold us4 us4A;rw[hw];exact HS.out);go_wp2_with fail
       go_meet
       exact S4.out
      |true=>
       have k15:wc.cell? ⟨w.heap.size,15,none⟩=some (.string (bs p.wTopic)):=HS.out.cell 15;have k16:wc.cell? ⟨w.heap.size,16,none⟩=some (.string (bs p.wPayload)):=HS.out.cell 16;have k17:wc.cell? ⟨w.heap.size,17,none⟩=some (.int .i64 p.wQos):=HS.out.cell 17;have k18:wc.cell? ⟨w.heap.size,18,none⟩=some (.bool p.wRetain):=HS.out.cell 18;have k19:wc.cell? ⟨w.heap.size,19,none⟩=some (.slice a.w p.wProps.length a.wc):=HS.out.cell 19;obtain⟨zA,hA⟩:∃z,(if v=5 then a.w else none)=z:=⟨_,rfl⟩
       obtain⟨zn,hn⟩:∃z,(if v=5 then p.wProps.length else 0)=z:=⟨_,rfl⟩
       obtain⟨zc,hc⟩:∃z,(if v=5 then a.wc else 0)=z:=⟨_,rfl⟩
       have CW:=qbtu v (bs p.wTopic) (bs p.wPayload) p.wQos p.wRetain a.w p.wProps.length a.wc;rw[hA,hn,hc] at CW;have CW:=hid CW;have he:(pkC {us3 v p with wTopic:=p.wTopic,wPayload:=p.wPayload,wQos:=p.wQos,wRetain:=p.wRetain} (us1A v a)).setIfInBounds 19 (.slice zA zn zc)=pkC {us3 v p with wTopic:=p.wTopic,wPayload:=p.wPayload,wQos:=p.wQos,wRetain:=p.wRetain,wProps:=if v=5 then p.wProps else []} {us1A v a with w:=if v=5 then a.w else none,wc:=if v=5 then a.wc else 0}:=by
        have hl:(if v=5 then p.wProps.length else 0)=(if v=5 then p.wProps else []).length:=by split<;>rfl
        subst hA hn hc;rw[hl]
        rfl
       have HE:=hid he;have h4:us4 v p={us3 v p with wTopic:=p.wTopic,wPayload:=p.wPayload,wQos:=p.wQos,wRetain:=p.wRetain,wProps:=if v=5 then p.wProps else []}:=by unfold us4;simp only[hw,if_true]
       have h4A:us4A v p a={us1A v a with w:=if v=5 then a.w else none,wc:=if v=5 then a.wc else 0}:=by unfold us4A;simp only[hw,if_true]
       have H4:=hid h4;have H4A:=hid h4A;clear hA hn hc he h4 h4A;go_wp2_with fail;refine(CW.out _).mono ?_;rintro e W2 ⟨rfl,hb⟩;have HS:=hid (HS.out.call hb);clear hb k15 k16 k17 k18 k19 k14;have n15:W2.cell? ⟨w.heap.size+1+1,15,none⟩=some (.string ⟨#[]⟩):=HS.out.ncell 15;have f15:=HS.out.fr 15;have n16:W2.cell? ⟨w.heap.size+1+1,16,none⟩=some (.string ⟨#[]⟩):=HS.out.ncell 16;have f16:=HS.out.fr 16;have n17:W2.cell? ⟨w.heap.size+1+1,17,none⟩=some (.int .i64 0):=HS.out.ncell 17;have f17:=HS.out.fr 17;have n18:W2.cell? ⟨w.heap.size+1+1,18,none⟩=some (.bool false):=HS.out.ncell 18;have f18:=HS.out.fr 18;have n19:W2.cell? ⟨w.heap.size+1+1,19,none⟩=some (.slice none 0 0):=HS.out.ncell 19;have f19:=HS.out.fr 19;have S4:=hid (((((HS.out.put 15 (.string (bs p.wTopic)) (x':={us3 v p with wTopic:=p.wTopic}) (b':=us1A v a) rfl).put 16 (.string (bs p.wPayload)) (x':={us3 v p with wTopic:=p.wTopic,wPayload:=p.wPayload}) (b':=us1A v a) rfl).put 17 (.int .i64 p.wQos) (x':={us3 v p with wTopic:=p.wTopic,wPayload:=p.wPayload,wQos:=p.wQos}) (b':=us1A v a) rfl).put 18 (.bool p.wRetain) (x':={us3 v p with wTopic:=p.wTopic,wPayload:=p.wPayload,wQos:=p.wQos,wRetain:=p.wRetain}) (b':=us1A v a) rfl).put 19 (.slice zA zn zc) (x':={us3 v p with wTopic:=p.wTopic,wPayload:=p.wPayload,wQos:=p.wQos,wRetain:=p.wRetain,wProps:=if v=5 then p.wProps else []}) (b':={us1A v a with w:=if v=5 then a.w else none,wc:=if v=5 then a.wc else 0}) HE.out);go_wp2_with fail
       go_meet
       rw[H4.out,H4A.out];exact S4.out
     case rest=>
      clear k14 HS;have HS:=hid hcut;clear hcut;have k10:wc.cell? ⟨w.heap.size,10,none⟩=some (.bool p.hasUser):=HS.out.cell 10
      go_upto_if 50 with fail
      go_cut [] (fun wx=>UsS w p a (us5 v p) (us4A v p a) wx)
      case first=>
       cases hw:p.hasUser with
       |false=>
        have S4:=hid (show UsS w p a (us5 v p) (us4A v p a) _ by unfold us5;rw[hw];exact HS.out);go_wp2_with fail
        go_meet
        exact S4.out
       |true=>
        have h5:us5 v p={us4 v p with user:=p.user}:=by unfold us5;simp only[hw,if_true]
        have H5:=hid h5;clear h5;have k11:wc.cell? ⟨w.heap.size,11,none⟩=some (.string (bs p.user)):=HS.out.cell 11;have n11:wc.cell? ⟨w.heap.size+1+1,11,none⟩=some (.string ⟨#[]⟩):=HS.out.ncell 11;have f11:=HS.out.fr 11;have S4:=hid (HS.out.put 11 (.string (bs p.user)) (x':={us4 v p with user:=p.user}) (b':=us4A v p a) rfl);go_wp2_with fail
        go_meet
        rw[H5.out];exact S4.out
      case rest=>
       clear k10 HS;have HS:=hid hcut;clear hcut;have k12:wc.cell? ⟨w.heap.size,12,none⟩=some (.bool p.hasPass):=HS.out.cell 12
       go_upto_if 55 with fail
       go_cut [] (fun wx=>UsS w p a (us6 v p) (us4A v p a) wx)
       case first=>
        cases hw:p.hasPass with
        |false=>
         have S4:=hid (show UsS w p a (us6 v p) (us4A v p a) _ by unfold us6;rw[hw];exact HS.out);go_wp2_with fail
         go_meet
         exact S4.out
        |true=>
         have h5:us6 v p={us5 v p with pass:=p.pass}:=by unfold us6;simp only[hw,if_true]
         have H5:=hid h5;clear h5;have k13:wc.cell? ⟨w.heap.size,13,none⟩=some (.string (bs p.pass)):=HS.out.cell 13;have n13:wc.cell? ⟨w.heap.size+1+1,13,none⟩=some (.string ⟨#[]⟩):=HS.out.ncell 13;have f13:=HS.out.fr 13;have S4:=hid (HS.out.put 13 (.string (bs p.pass)) (x':={us5 v p with pass:=p.pass}) (b':=us4A v p a) rfl);go_wp2_with fail
         go_meet
         rw[H5.out];exact S4.out
       case rest=>
        clear k12 HS;have HS:=hid hcut;clear hcut;have GB:=HS.out.new;rw[HR.out] at GB;have GB:=hid GB;have GR:=hid HS.out.res;have LO:=hid HS.out.low;have hR1:=qwmp (us6 v p) (us4A v p a);have hR2:=qmz0 (us6 v p) (us4A v p a);rw[HR.out] at hR1 hR2;have HR1:=hid hR1;have HR2:=hid hR2;clear hR1 hR2 HS;go_wp2_with (first
         |(refine wpList_load_row rfl _ _ rfl (w.heap.size+1+1) rfl 38 R (0,0) _ GB.out underlying38 rfl (by rw[HR1.out];exact q5nr) ?_)
         |(refine wpList_store_row rfl _ _ _ rfl (w.heap.size+1) R rfl rfl 38 _ GR.out (by rw[HR1.out];exact q5nr) (by rw[qbwp,HR1.out]) HR2.out ?_))
        exact q7wi (cs:=R) rfl rfl rfl underlying38 rfl (by rw[HR1.out];exact q5nr) (setRow_heap _ _ _ _ _ _ GR.out) ⟨rfl,q8xz LO.out (by omega) _⟩
def qv0k(f:Nat):Value := .func (.func f) #[.agg #[]] #[]
def qo38:List (Int×Value):=[(15,qv0k 229),(14,qv0k 228),(13,qv0k 227),(12,qv0k 227)]
def qvwa(w:World)(b:Nat):Prop:=qwau prog 3 w b .nilFunc qo38
theorem qa1p(w:World):Calls prog 184 #[] w fun e w'=>∃b,e=.returned (.map (some b))/\qvwa w' b/\Below w.heap.size w w':=by
 have hmf:∀(fn:Fn) (first cap:Array Value) (w:World),(Instr.makeFunc fn first cap).run prog w=.ok (.func fn first cap) w:=fun _ _ _ _=>rfl;have hmm:=@run_makeMap prog;have hG:qpdk prog 3 w ((w.alloc (.cells #[] 248)).alloc (.map #[] 0)) (w.heap.size+1) .nilFunc []:=by have h:=qwau.made (w.alloc (.cells #[] 248)) prog 3 .nilFunc;rw[show(w.alloc (.cells #[] 248)).heap.size=w.heap.size+1 by simp] at h;exact⟨h,((Below.refl _ _).alloc (Nat.le_refl _) _).alloc (by simp) _,Nat.le_succ _⟩
 go_in;go_wp2_with (refine q6d2 rfl _ _ _ 217 rfl 3 215 underlying3 underlying217 _ _ _ rfl hG (by simp[maxLen]) _ _ rfl rfl (by decide) ?_;clear hG;intro w1 hG);go_ret;exact⟨_,rfl,hG.1,hG.2.1⟩
theorem qena(x:Int)(w:World):Calls prog 227 #[.agg #[],.int .i64 x] w fun e w'=>e=.returned (.tuple #[.bool false,.int .i64 0])/\Below w.heap.size w w':=by
 go_in;go_wp2
 go_ret2
 exact⟨rfl,qybm _⟩
theorem qugm(x:Int)(w:World):Calls prog 228 #[.agg #[],.int .i64 x] w fun e w'=>e=.returned (.tuple #[.bool (x==5),.int .i64 0])/\Below w.heap.size w w':=by
 go_in;go_wp2
 go_ret2
 exact⟨rfl,qybm _⟩
theorem qtnb(x:Int)(w:World):Calls prog 229 #[.agg #[],.int .i64 x] w fun e w'=>e=.returned (.tuple #[.bool (x==5),.int .i64 (if x=5 then 0 else 8)])/\Below w.heap.size w w':=by
 by_cases h5:x=5
 ·subst h5;go_in;go_wp2
  go_ret2
  exact⟨rfl,qybm _⟩
 ·have h1:(x==5)=false:=beq_eq_false_iff_ne.2 h5;have h2:(x != 5)=true:=by simpa using h5
  rw[if_neg h5,h1];clear h5;go_in;go_wp2
  go_ret2
  exact⟨rfl,qybm _⟩
theorem q24b(W:World):(zeroValue 215).run prog W=.ok .nilFunc W:=by kernel_rfl
theorem qv3n{n:Int}(h0:-9223372036854775808<=n)(h1:n<=9223372036854775807):(Lit.int .i64 n).wf=true:=by simp[Lit.wf,IntKind.min,IntKind.max,IntKind.signed,IntKind.bits];omega
theorem q2qrj{k:Int}(hk0:-9223372036854775808<=k)(hk1:k<=9223372036854775807)(W:World)(b:Nat)(h:qvwa W b) :
 (Instr.lookup 217 (.map (some b)) (.int .i64 k) true).run prog W=.ok (.tuple #[q1n3 .nilFunc qo38 k,.bool (hasK qo38 k)]) W:=
 h.look underlying3 underlying217 (q24b W) (qv3n hk0 hk1)
theorem qkgbp(v k:Int)(w:World)(hk0:-9223372036854775808<=k)(hk1:k<=9223372036854775807) :
 Calls prog 145 #[.int .i64 v,.int .i64 k] w fun e w'=>e=.returned (.tuple #[.bool (qyjk v k).1,.int .i64 ((qyjk v k).2:Nat)])/\Below w.heap.size w w':=by
 have LK:=q2qrj hk0 hk1;have hv:(v=4\/v=5)\/((v==4)=false/\(v==5)=false)/\(v != 4)=true/\(v != 5)=true/\versC v=false:=by
  by_cases h4:v=4
  ·exact .inl (.inl h4)
  by_cases h5:v=5
  ·exact .inl (.inr h5)
  exact .inr ⟨⟨beq_eq_false_iff_ne.2 h4,beq_eq_false_iff_ne.2 h5⟩,by simpa using h4,by simpa using h5,by simp[versC,h4,h5]⟩
 have hk:(k=12\/k=13\/k=14\/k=15)\/q1n3 .nilFunc qo38 k=.nilFunc/\hasK qo38 k=false/\q5t0 k=false:=by
  by_cases h:k=12\/k=13\/k=14\/k=15
  ·exact .inl h
  ·refine .inr ⟨?_,?_,?_⟩
   ·simp only[qo38,q1n3];rw[if_neg (by omega),if_neg (by omega),if_neg (by omega),if_neg (by omega)]
   ·simp only[qo38,hasK];rw[if_neg (by omega),if_neg (by omega),if_neg (by omega),if_neg (by omega)]
   ·simp only[q5t0,Bool.and_eq_false_iff,decide_eq_false_iff_not];omega
 have PI:=hid qena;have DI:=hid qugm;have AU:=hid qtnb;have KD:=hid qa1p;rcases hk with hk|⟨l1,l2,l3⟩
 ·rcases hv with hv|⟨⟨v1,v2⟩,v3,v4,v5⟩
  ·rcases hk with rfl|rfl|rfl|rfl
   case' inl=>have hh:hasK qo38 12=true:=rfl;have hl:q1n3 .nilFunc qo38 12=.func (.func 227) #[.agg #[]] #[]:=rfl
   case' inr.inl=>have hh:hasK qo38 13=true:=rfl;have hl:q1n3 .nilFunc qo38 13=.func (.func 227) #[.agg #[]] #[]:=rfl
   case' inr.inr.inl=>have hh:hasK qo38 14=true:=rfl;have hl:q1n3 .nilFunc qo38 14=.func (.func 228) #[.agg #[]] #[]:=rfl
   case' inr.inr.inr=>have hh:hasK qo38 15=true:=rfl;have hl:q1n3 .nilFunc qo38 15=.func (.func 229) #[.agg #[]] #[]:=rfl
   all_goals
    rw[hh,hl] at LK;have LKH:=hid LK;clear LK hh hl hk0 hk1;rcases hv with rfl|rfl
    all_goals
     go_in;go_wp2_with fail;refine(KD.out _).mono ?_;rintro e W ⟨b,rfl,hK,hb⟩;have lk:=LKH.out W b hK;have LO:=hid hb;clear hb hK;go_wp2_with fail
     first
      |with_reducible refine(PI.out _ _).mono ?_
      |with_reducible refine(DI.out _ _).mono ?_
      |with_reducible refine(AU.out _ _).mono ?_
     rintro e W2 ⟨rfl,hb⟩;have LO2:=hid (qxh2 LO.out hb);clear hb LO;go_wp2
     go_ret2
     exact⟨rfl,LO2.out⟩
  ·have ht:qyjk v k=(false,2):=by simp[qyjk,v5]
   rw[ht];clear ht v5;obtain⟨hh,f,hl⟩:hasK qo38 k=true/\∃f,q1n3 .nilFunc qo38 k=.func (.func f) #[.agg #[]] #[]:=by
    rcases hk with rfl|rfl|rfl|rfl
    all_goals exact⟨rfl,_,rfl⟩
   rw[hh,hl] at LK;have LKH:=hid LK;clear LK hh hl hk hk0 hk1;go_in;go_wp2_with fail;refine(KD.out _).mono ?_;rintro e W ⟨b,rfl,hK,hb⟩;have lk:=LKH.out W b hK;have LO:=hid hb;clear hb hK;go_wp2
   go_ret2
   exact⟨rfl,LO.out⟩
 ·have ht:qyjk v k=(false,2):=by simp[qyjk,l3]
  rw[ht];rw[l1,l2] at LK;have LKH:=hid LK;clear LK ht l1 l2 l3 hv hk0 hk1;go_in;go_wp2_with fail;refine(KD.out _).mono ?_;rintro e W ⟨b,rfl,hK,hb⟩;have lk:=LKH.out W b hK;have LO:=hid hb;clear hb hK;go_wp2
  go_ret2
  exact⟨rfl,LO.out⟩
def FitM(p:Pk):Prop:=PkOk p/\q21o p
def CapM(p:Pk)(a:Ad):Prop:=p.props.length<=a.pc/\(p.kind<=2->PkCap p a)
def qtij(v:Int)(p:Pk):Pk:={Pk.zero with kind:=p.kind,id:=p.id,filters:=if qsfj p.kind then p.filters else [],codes:=if !qsfj p.kind&&!qojk v p.kind then p.codes else [],props:=if v=5 then p.props else []}
def qlcd(v k:Int)(a:Ad):Ad:={adZ with fs:=if qsfj k then a.fs else none,fc:=if qsfj k then a.fc else 0,cs:=if !qsfj k&&!qojk v k then a.cs else none,cc:=if !qsfj k&&!qojk v k then a.cc else 0,ps:=if v=5 then a.ps else none,pc:=if v=5 then a.pc else 0}
theorem qciq{w:World}{p:Pk}{a:Ad}(v:Int)(h:PkAt w p a):PkAt w (qtij v p) (qlcd v p.kind a):=by
 refine⟨fun e=>absurd rfl e,?_,?_,?_⟩
 ·unfold qtij qlcd;cases (!qsfj p.kind&&!qojk v p.kind)
  ·exact fun e=>absurd rfl e
  ·exact h.cs
 ·unfold qtij qlcd;cases qsfj p.kind
  ·exact fun e=>absurd rfl e
  ·exact h.fs
 ·unfold qtij qlcd;by_cases h5:v=5
  ·simp only[if_pos h5];exact h.ps
  ·simp only[if_neg h5];exact fun e=>absurd rfl e
theorem q191{p:Pk}(v:Int)(h:q21o p):q21o (qtij v p):=by
 refine⟨?_,?_,?_,Nat.zero_le _⟩
 ·unfold qtij;cases (!qsfj p.kind&&!qojk v p.kind)
  ·exact Nat.zero_le _
  ·exact h.1
 ·unfold qtij;cases qsfj p.kind
  ·exact Nat.zero_le _
  ·exact h.2.1
 ·unfold qtij;by_cases h5:v=5
  ·simp only[if_pos h5];exact h.2.2.1
  ·simp only[if_neg h5];exact Nat.zero_le _
def us0T(p:Pk):Pk:={Pk.zero with kind:=p.kind,id:=p.id}
def us1T(v:Int)(p:Pk):Pk:={Pk.zero with kind:=p.kind,id:=p.id,filters:=if qsfj p.kind then p.filters else [],codes:=if !qsfj p.kind&&!qojk v p.kind then p.codes else []}
def qxsp(v k:Int)(a:Ad):Ad:={adZ with fs:=if qsfj k then a.fs else none,fc:=if qsfj k then a.fc else 0,cs:=if !qsfj k&&!qojk v k then a.cs else none,cc:=if !qsfj k&&!qojk v k then a.cc else 0}
theorem q1ms(v:Int)(p:Pk)(a:Ad)(w:World):Calls prog 218 #[.int .i64 v,.agg (pkC p a)] w fun e w'=>e=.returned (.agg (pkC (qtij v p) (qlcd v p.kind a)))/\Below w.heap.size w w':=by
 have Z0:((w.alloc (.cells (pkC p a) 38)).alloc (.cells pkZ 38)).heap.size=w.heap.size+1+1:=by simp
 have GN:(((w.alloc (.cells (pkC p a) 38)).alloc (.cells pkZ 38)).alloc (.cells pkZ 38)).heap[w.heap.size+1+1]?=some (.cells pkZ 38 (0,0)):=by
  have:=heap_alloc_new ((w.alloc (.cells (pkC p a) 38)).alloc (.cells pkZ 38)) (.cells pkZ 38)
  rw[Z0] at this;exact this
 have S0:UsS w p a (us0T p) adZ ((((w.alloc (.cells (pkC p a) 38)).alloc (.cells pkZ 38)).alloc (.cells pkZ 38)).setRow (w.heap.size+1+1) (pkC (us0T p) adZ)):=by
  refine⟨q8xz (qxh2 (qxh2 (qybm _) (qybm _)) (qybm _)) (by omega) _,?_,?_,setRow_heap _ _ _ _ _ _ GN⟩
  ·exact(setRow_other _ _ _ _ (by omega)).trans ((heap_alloc_old _ _ (by rw[Z0];omega)).trans (heap_alloc2_old _ _ _))
  ·exact(setRow_other _ _ _ _ (by omega)).trans ((heap_alloc_old _ _ (by rw[Z0];omega)).trans (heap_alloc2_new _ _ _))
 have hzv:=qrai;have hne:¬pkZ=#[]:=by intro h;have:=qbwp;rw[h] at this;cases this
 have HZ:=hid qbwp;have GN:=hid GN;have hD1:=qwmp (us0T p) adZ;have hD2:=qmz0 (us0T p) adZ;obtain⟨D,hD⟩:∃D,pkC (us0T p) adZ=D:=⟨_,rfl⟩
 rw[hD] at hD1 hD2 S0;have HD:=hid hD;have HD1:=hid hD1;have HD2:=hid hD2;have HS0:=hid S0;have k0:((w.alloc (.cells (pkC p a) 38)).alloc (.cells pkZ 38)).cell? ⟨w.heap.size,0,none⟩=some (.int .i64 p.kind):=cell_of_row _ _ 0 _ _ _ (heap_alloc2_old _ _ _);have k4:((w.alloc (.cells (pkC p a) 38)).alloc (.cells pkZ 38)).cell? ⟨w.heap.size,4,none⟩=some (.int .i64 p.id):=cell_of_row _ _ 4 _ _ _ (heap_alloc2_old _ _ _);clear S0 hD hD1 hD2 Z0;go_in;go_upto_block 0 with (first
  |(refine wpList_buildTo rfl 38 _ rfl (some _) rfl D (by rw[<-HD.out];kernel_rfl) ?_)
  |(refine wpList_store_row rfl _ _ _ rfl (w.heap.size+1+1) D rfl rfl 38 _ GN.out (by rw[HD1.out];exact q5nr) (by rw[HZ.out,HD1.out]) HD2.out ?_))
 clear k0 k4 GN HZ hne hzv;generalize (((w.alloc (.cells (pkC p a) 38)).alloc (.cells pkZ 38)).alloc (.cells pkZ 38)).setRow (w.heap.size+1+1) D=W at *;dsimp only[Act.put];go_cut [] (fun wx=>UsS w p a (us1T v p) (qxsp v p.kind a) wx)
 case first=>
  have k0:W.cell? ⟨w.heap.size,0,none⟩=some (.int .i64 p.kind):=HS0.out.cell 0;cases ha:qsfj p.kind with
  |true=>
   have S1:=hid (HS0.out.put 23 (.slice a.fs p.filters.length a.fc) (x':=us1T v p) (b':=qxsp v p.kind a) (by unfold us1T qxsp us0T;rw[ha];rfl));have k23:W.cell? ⟨w.heap.size,23,none⟩=some (.slice a.fs p.filters.length a.fc):=HS0.out.cell 23;have n23:W.cell? ⟨w.heap.size+1+1,23,none⟩=some (.slice none 0 0):=HS0.out.ncell 23;have f23:=HS0.out.fr 23;have AS:=hid (fun W=>(ha▸qczm p.kind W:Calls prog 180 #[.int .i64 p.kind] W fun e w'=>e=.returned (.bool true)/\W=w'));clear HS0 ha;go_wp2_with (go_at_call 180;refine(AS.out _).mono ?_;rintro e W2 ⟨rfl,rfl⟩)
   go_meet
   exact S1.out
  |false=>
   have AS:=hid (fun W=>(ha▸qczm p.kind W:Calls prog 180 #[.int .i64 p.kind] W fun e w'=>e=.returned (.bool false)/\W=w'));cases hb:qojk v p.kind with
   |true=>
    have BA:=hid (fun W=>(hb▸q1kd v p.kind W:Calls prog 217 #[.int .i64 v,.int .i64 p.kind] W fun e w'=>e=.returned (.bool true)/\W=w'));have S1:=hid (show UsS w p a (us1T v p) (qxsp v p.kind a) W by unfold us1T qxsp;rw[ha,hb];exact HS0.out);clear HS0 ha hb;go_wp2_with (first
     |(go_at_call 180;refine(AS.out _).mono ?_;rintro e W2 ⟨rfl,rfl⟩)
     |(go_at_call 217;refine(BA.out _).mono ?_;rintro e W2 ⟨rfl,rfl⟩))
    go_meet
    exact S1.out
   |false=>
    have BA:=hid (fun W=>(hb▸q1kd v p.kind W:Calls prog 217 #[.int .i64 v,.int .i64 p.kind] W fun e w'=>e=.returned (.bool false)/\W=w'));have S1:=hid (HS0.out.put 22 (.slice a.cs p.codes.length a.cc) (x':=us1T v p) (b':=qxsp v p.kind a) (by unfold us1T qxsp us0T;rw[ha,hb];rfl));have k22:W.cell? ⟨w.heap.size,22,none⟩=some (.slice a.cs p.codes.length a.cc):=HS0.out.cell 22;have n22:W.cell? ⟨w.heap.size+1+1,22,none⟩=some (.slice none 0 0):=HS0.out.ncell 22;have f22:=HS0.out.fr 22;clear HS0 ha hb;go_wp2_with (first
     |(go_at_call 180;refine(AS.out _).mono ?_;rintro e W2 ⟨rfl,rfl⟩)
     |(go_at_call 217;refine(BA.out _).mono ?_;rintro e W2 ⟨rfl,rfl⟩))
    go_meet
    exact S1.out
 case rest=>
  have H1:=hid hcut;clear hcut HS0
  go_upto_if 28 with fail
  go_cut [] (fun wx=>UsS w p a (qtij v p) (qlcd v p.kind a) wx)
  case first=>
   by_cases h5:v=5
   ·subst h5;have S1:=hid (H1.out.put 24 (.slice a.ps p.props.length a.pc) (x':=qtij 5 p) (b':=qlcd 5 p.kind a) rfl);have k24:wc.cell? ⟨w.heap.size,24,none⟩=some (.slice a.ps p.props.length a.pc):=H1.out.cell 24;have n24:wc.cell? ⟨w.heap.size+1+1,24,none⟩=some (.slice none 0 0):=H1.out.ncell 24;have f24:=H1.out.fr 24;clear H1;go_wp2_with fail
    go_meet
    exact S1.out
   ·have h5':(v==5)=false:=beq_eq_false_iff_ne.2 h5;have SB:=hid (show UsS w p a (qtij v p) (qlcd v p.kind a) wc by unfold qtij qlcd;rw[if_neg h5,if_neg h5,if_neg h5];exact H1.out)
    clear H1 h5;go_wp2_with fail
    go_meet
    exact SB.out
  case rest=>
   have HS:=hid hcut;clear hcut H1;have GB:=HS.out.new;have GR:=hid HS.out.res;have LO:=hid HS.out.low;have hR1:=qwmp (qtij v p) (qlcd v p.kind a);have hR2:=qmz0 (qtij v p) (qlcd v p.kind a);obtain⟨R,hR⟩:∃R,pkC (qtij v p) (qlcd v p.kind a)=R:=⟨_,rfl⟩
   rw[hR] at GB hR1 hR2;have HR:=hid hR;have GB:=hid GB;have HR1:=hid hR1;have HR2:=hid hR2;clear hR1 hR2 HS hR;go_wp2_with (first
    |(refine wpList_load_row rfl _ _ rfl (w.heap.size+1+1) rfl 38 R (0,0) _ GB.out underlying38 rfl (by rw[HR1.out];exact q5nr) ?_)
    |(refine wpList_store_row rfl _ _ _ rfl (w.heap.size+1) R rfl rfl 38 _ GR.out (by rw[HR1.out];exact q5nr) (by rw[qbwp,HR1.out]) HR2.out ?_))
   exact q7wi (cs:=R) rfl rfl rfl underlying38 rfl (by rw[HR1.out];exact q5nr) (setRow_heap _ _ _ _ _ _ GR.out) ⟨by rw[HR.out],q8xz LO.out (by omega) _⟩
abbrev fnV(f:Nat):Value := .func (.func f) #[] #[]
abbrev wayV(f g:Nat):Value := .agg #[fnV f,fnV g]
abbrev conW:Value:=wayV 60 61
abbrev pubW:Value:=wayV 62 63
abbrev ackW:Value:=wayV 64 65
abbrev subW:Value:=wayV 66 67
abbrev ctlW:Value:=wayV 68 69
def qtav:List (Int×Value):=[(15,ctlW),(14,ctlW),(13,ctlW),(12,ctlW),(11,subW),(10,subW),(9,subW),(8,subW),(7,ackW),(6,ackW),(5,ackW),(4,ackW),(3,pubW),(2,conW),(1,conW)]
abbrev noW:Value := .agg #[.nilFunc,.nilFunc]
def qvkg(w:World)(b:Nat):Prop:=qmfc prog 3 w b noW qtav
theorem qvkg.below{w w':World}{b:Nat}(h:qvkg w b)(hb:Below w.heap.size w w'):qvkg w' b:=h.of_block (hb.block _ h.lt)
theorem q2q5(W:World):(zeroValue 95).run prog W=.ok noW W:=by kernel_rfl
theorem qvkg.look{W:World}{b:Nat}(h:qvkg W b){k:Int}(hk0:1<=k)(hk1:k<=15):(Instr.lookup 96 (.map (some b)) (.int .i64 k) false).run prog W=.ok (q1n3 noW qtav k) W:=
 qmfc.look h underlying3 underlying96 (q2q5 W) (qv3n (by omega) (by omega))
theorem qter:(prog.info? 95).map (·.size)=some 2:=by kernel_rfl
structure WyF(b:Nat)(gs:List (Nat×Nat))(a:Act):Prop where
 size:a.tmps.size=28
 defers:a.defers=[]
 map:a.eval (.tmp 11)=.map (some b)
 ptr:∀q∈gs,q.1<11/\a.eval (.tmp q.1)=.pointer (some ⟨q.2,0,none⟩)
theorem WyF.put{b:Nat}{gs:List (Nat×Nat)}{a:Act}(h:WyF b gs a){d:Nat}(hd:11<d)(v u:Value):WyF b gs ((a.put (some d) v).put none u):=
 ⟨by show(a.put (some d) v).tmps.size=28;rw[Act.size_put];exact h.size,by show(a.put (some d) v).defers=[];rw[Act.defers_put'];exact h.defers,
  (Act.eval_put_ne a d 11 v (by omega)).trans h.map,fun q hq=>⟨(h.ptr q hq).1,(Act.eval_put_ne a d q.1 v (by have:=(h.ptr q hq).1;omega)).trans (h.ptr q hq).2⟩⟩
theorem qr31{ops:Array Oper}{rest:List Oper}{Q:Exit->Act->World->Prop}{a:Act}{w w0:World}{b:Nat}{gs:List (Nat×Nat)}{l:List (Int×Value)}{p p':String}{af af':Array Edge}{r:TypeId}
 (D:Array Value) {d t g:Nat} {k:Int} (hF:WyF b gs a) (hG:MapG prog 3 w0 w b noW l) (ht:(t,g)∈gs) (hd:11<d/\d<28) (hR:∀w',Below w0.heap.size w0 w'->w'.heap[g]?=some (.cells D 95 (0,0))) (hD:D.size=2) (hl:l.length<15) (hk:(Lit.int .i64 k).wf=true)
 (hK:∀a' w',WyF b gs a'->MapG prog 3 w0 w' b noW ((k,.agg D)::l)->wpList prog ops Q rest a' w') :
 wpList prog ops Q ({dst:=some d,op := .load 95 (.tmp t),type:=95,pos:=p,after:=af,guard:=none}::{dst:=none,op := .insert 96 (.tmp 11) (.const (.int .i64 k)) (.tmp d),type:=r,pos:=p',after:=af',guard:=none}::rest) a w:=by
 refine wpList_load_row rfl _ _ rfl g (hF.ptr _ ht).2 95 D (0,0) _ (hR _ hG.2.1) underlying95 rfl (by rw[hD];exact qter) ?_;exact q32q rfl _ _ _ 96 rfl 3 95 underlying3 underlying96 _ _ _ ((Act.eval_put_ne a d 11 _ (by omega)).trans hF.map) hG (by show l.length<9223372036854775807;omega) _ _ rfl (Act.eval_put_same a d _ (by rw[hF.size];omega)) hk fun w' h=>hK _ w' (hF.put hd.1 _ _) h
theorem q9tb{ops:Array Oper}{Q:Exit->Act->World->Prop}{a:Act}{w:World}{b:Nat}{gs:List (Nat×Nat)}{p p':String}{af af':Array Edge}{r r':TypeId}(hF:WyF b gs a)
 (hK:∀a',a'.defers=[]->a'.tmps.getD 0 undef=.map (some b)->Q .normal a' w) :
 wpList prog ops Q [{dst:=some 27,op := .move (.tmp 11),type:=r,pos:=p,after:=af,guard:=none},{dst:=some 0,op := .assign (.tmp 27),type:=r',pos:=p',after:=af',guard:=none}] a w:=by
 refine wpList_plain rfl fun K1 h1=>h1 _ _ (wpList_plain rfl fun K2 h2=>h2 _ _ ?_);unfold wpList;refine hK _ ((Act.defers_put' _ _ _).trans ((Act.defers_put' _ _ _).trans hF.defers)) ?_;have e1:=Act.eval_put_same a 27 (a.eval (.tmp 11)) (by rw[hF.size];decide);have e0:=Act.eval_put_same (a.put (some 27) (a.eval (.tmp 11))) 0 ((a.put (some 27) (a.eval (.tmp 11))).eval (.tmp 27)) (by rw[Act.size_put,hF.size];decide);exact e0.trans (e1.trans hF.map)
theorem qvww{ops:Array Oper}{l:List Oper}{Q:Exit->Act->World->Prop}{a:Act}{w:World}{b:Nat}{gs:List (Nat×Nat)}(hF:WyF b gs a)(h:∀a,WyF b gs a->wpList prog ops Q l a w):wpList prog ops Q l a w:=h a hF
def qpst(w:World):World:=((((w.alloc (.cells #[fnV 60,fnV 61] 95)).alloc (.cells #[fnV 62,fnV 63] 95)).alloc (.cells #[fnV 64,fnV 65] 95)).alloc (.cells #[fnV 66,fnV 67] 95)).alloc (.cells #[fnV 68,fnV 69] 95)
theorem qpoq(w:World):Below w.heap.size w (qpst w)/\(qpst w).heap.size=w.heap.size+5/\(qpst w).heap[w.heap.size]?=some (.cells #[fnV 60,fnV 61] 95 (0,0))/\(qpst w).heap[w.heap.size+1]?=some (.cells #[fnV 62,fnV 63] 95 (0,0))/\(qpst w).heap[w.heap.size+1+1]?=some (.cells #[fnV 64,fnV 65] 95 (0,0))/\(qpst w).heap[w.heap.size+1+1+1]?=some (.cells #[fnV 66,fnV 67] 95 (0,0))/\(qpst w).heap[w.heap.size+1+1+1+1]?=some (.cells #[fnV 68,fnV 69] 95 (0,0)):=by
 have o:∀{W:World} {k:Nat} {x y:Obj},W.heap[k]?=some x->(W.alloc y).heap[k]?=some x:=fun h=>(heap_alloc_old _ _ (lt_of_block h)).trans h;have n:∀{W:World} {k:Nat} {x:Obj},W.heap.size=k->(W.alloc x).heap[k]?=some x:=fun h=>h▸heap_alloc_new _ _;unfold qpst;exact⟨(((((Below.refl _ _).alloc (Nat.le_refl _) _).alloc (by simp) _).alloc (by simp;omega) _).alloc (by simp;omega) _).alloc (by simp;omega) _,by simp,
  o (o (o (o (n rfl)))),o (o (o (n (by simp)))),o (o (n (by simp))),o (n (by simp)),n (by simp)⟩
theorem qdie(w:World):Calls prog 46 #[] w fun e w'=>∃b,e=.returned (.map (some b))/\qvkg w' b/\Below w.heap.size w w':=by
 have hmm:=@run_makeMap prog;have hst:∀(w:World) (a:Addr) (f:Nat) m,(store a (.func (.func f) #[] #[]) m).run prog w=stored prog w a (.func (.func f) #[] #[]) m:=fun w a f m=>run_store _ w a _ m rfl;go_in
 go_upto_region 6 with fail
 obtain⟨B5,Z5,R1,R2,R3,R4,R5⟩:=qpoq w;change Code.wp _ _ _ _ (qpst w);generalize qpst w=W5 at *;clear Z5;generalize w.heap.size+1+1+1+1=g5 at R5 ⊢;generalize w.heap.size+1+1+1=g4 at R4 ⊢;generalize w.heap.size+1+1=g3 at R3 ⊢;generalize w.heap.size+1=g2 at R2 ⊢;have hG:MapG prog 3 W5 (W5.alloc (.map #[] 0)) W5.heap.size noW []:=⟨qmfc.made _ _ _ _,qybm _,Nat.le_refl _⟩
 have K:=fun(g:Nat) (D:Array Value) (R:W5.heap[g]?=some (.cells D 95 (0,0))) (w':World) (h:Below W5.heap.size W5 w')=>(h.block _ (lt_of_block R)).trans R;replace R1:=hid (K _ _ R1);replace R2:=hid (K _ _ R2);replace R3:=hid (K _ _ R3);replace R4:=hid (K _ _ R4);replace R5:=hid (K _ _ R5);clear hst K;go_wp2_with (
  refine qvww (b:=W5.heap.size) (gs:=[(1,w.heap.size),(2,g2),(3,g3),(4,g4),(5,g5)]) ⟨rfl,rfl,rfl,by simp only[List.forall_mem_cons];exact⟨⟨by decide,rfl⟩,⟨by decide,rfl⟩,⟨by decide,rfl⟩,⟨by decide,rfl⟩,⟨by decide,rfl⟩,fun _ h=>(nomatch h)⟩⟩ ?_;intro a hF;refine qr31 #[fnV 60,fnV 61] hF hG (by simp) (by decide) R1.out rfl (by simp) (by decide) fun a w1 hF hG=>?_;refine qr31 #[fnV 60,fnV 61] hF hG (by simp) (by decide) R1.out rfl (by simp) (by decide) fun a w1 hF hG=>?_;refine qr31 #[fnV 62,fnV 63] hF hG (by simp) (by decide) R2.out rfl (by simp) (by decide) fun a w1 hF hG=>?_;refine qr31 #[fnV 64,fnV 65] hF hG (by simp) (by decide) R3.out rfl (by simp) (by decide) fun a w1 hF hG=>?_;refine qr31 #[fnV 64,fnV 65] hF hG (by simp) (by decide) R3.out rfl (by simp) (by decide) fun a w1 hF hG=>?_;refine qr31 #[fnV 64,fnV 65] hF hG (by simp) (by decide) R3.out rfl (by simp) (by decide) fun a w1 hF hG=>?_;refine qr31 #[fnV 64,fnV 65] hF hG (by simp) (by decide) R3.out rfl (by simp) (by decide) fun a w1 hF hG=>?_;refine qr31 #[fnV 66,fnV 67] hF hG (by simp) (by decide) R4.out rfl (by simp) (by decide) fun a w1 hF hG=>?_;refine qr31 #[fnV 66,fnV 67] hF hG (by simp) (by decide) R4.out rfl (by simp) (by decide) fun a w1 hF hG=>?_;refine qr31 #[fnV 66,fnV 67] hF hG (by simp) (by decide) R4.out rfl (by simp) (by decide) fun a w1 hF hG=>?_;refine qr31 #[fnV 66,fnV 67] hF hG (by simp) (by decide) R4.out rfl (by simp) (by decide) fun a w1 hF hG=>?_;refine qr31 #[fnV 68,fnV 69] hF hG (by simp) (by decide) R5.out rfl (by simp) (by decide) fun a w1 hF hG=>?_;refine qr31 #[fnV 68,fnV 69] hF hG (by simp) (by decide) R5.out rfl (by simp) (by decide) fun a w1 hF hG=>?_;refine qr31 #[fnV 68,fnV 69] hF hG (by simp) (by decide) R5.out rfl (by simp) (by decide) fun a w1 hF hG=>?_;refine qr31 #[fnV 68,fnV 69] hF hG (by simp) (by decide) R5.out rfl (by simp) (by decide) fun a w1 hF hG=>?_;refine q9tb hF fun a h1 h2=>?_)
 refine bodyPost_ret (results_tmp rfl _ _ _) h1 ?_;rw[h2];exact⟨_,rfl,hG.1,B5.trans (hG.2.1.mono B5.size)⟩
def q10u(p:Pk)(a:Ad)(g:Nat):Prop:=∃i,p.wProps≠[]/\a.w=some ⟨g,i,none⟩\/p.codes≠[]/\a.cs=some ⟨g,i,none⟩\/p.filters≠[]/\a.fs=some ⟨g,i,none⟩\/p.props≠[]/\a.ps=some ⟨g,i,none⟩
theorem FrA.lists{w:World}{p:Pk}{a:Ad}(h:FrA w p a){g:Nat}(hg:q10u p a g):w.heap.size<=g:=by
 obtain⟨i,h1|h1|h1|h1⟩:=hg
 ·exact h g i (.inl h1)
 ·exact h g i (.inr (.inl h1))
 ·exact h g i (.inr (.inr (.inl h1)))
 ·exact h g i (.inr (.inr (.inr h1.2)))
theorem PkAt.lists_lt{W:World}{p:Pk}{a:Ad}(h:PkAt W p a){g:Nat}(hg:q10u p a g):g<W.heap.size:=by
 obtain⟨i,⟨h1,h2⟩|⟨h1,h2⟩|⟨h1,h2⟩|⟨h1,h2⟩⟩:=hg
 ·obtain⟨g',i',e,hl,-⟩:=h.w h1;rw[h2] at e;cases e;exact hl
 ·obtain⟨g',i',e,hl,-⟩:=h.cs (fun e=>h1 (by simpa [ics] using e));rw[h2] at e;cases e;exact hl
 ·obtain⟨g',i',e,hl,-⟩:=h.fs (fun e=>h1 (by
   cases hf:p.filters with
   |nil=>rfl
   |cons f l=>rw[hf] at e;exact absurd e (by simp[fcs,quk6])));rw[h2] at e;cases e;exact hl
 ·obtain⟨g',i',e,hl,-⟩:=h.ps h1;rw[h2] at e;cases e;exact hl
theorem PkAt.moved{W W':World}{p:Pk}{a:Ad}(h:PkAt W p a)(hz:W.heap.size<=W'.heap.size)(hb:∀g,q10u p a g->W'.heap[g]?=W.heap[g]?):PkAt W' p a:=by
 refine⟨fun hn=>h.w.kept hz (fun g i e _=>hb g ⟨i,.inl ⟨hn,e⟩⟩) hn,fun hn=>h.cs.kept hz (fun g i e _=>hb g ⟨i,.inr (.inl ⟨?_,e⟩)⟩) hn,fun hn=>h.fs.kept hz (fun g i e _=>hb g ⟨i,.inr (.inr (.inl ⟨?_,e⟩))⟩) hn,fun hn=>h.ps.kept hz (fun g i e _=>hb g ⟨i,.inr (.inr (.inr ⟨hn,e⟩))⟩) hn⟩
 ·intro e;rw[e] at hn;exact hn rfl
 ·intro e;rw[e] at hn;exact hn rfl
abbrev Pa:=Pk×Ad
def pkCs(l:List Pa):List Value:=l.flatMap fun q=>(pkC q.1 q.2).toList
theorem q6wm(l:List Pa):(pkCs l).length=l.length*25:=by
 induction l with
 |nil=>rfl
 |cons q l ih=>show((pkC q.1 q.2).toList++pkCs l).length=_;rw[List.length_append,ih,Array.length_toList,qwmp,List.length_cons];omega
theorem q0mi(l m:List Pa):pkCs (l++m)=pkCs l++pkCs m:=by simp[pkCs]
theorem qlyl:∀(l:List Pa) (i j:Nat) (q:Pa) (u:Value),l[i]?=some q->(pkC q.1 q.2)[j]?=some u->(pkCs l)[i*25+j]?=some u
 |[],i,j,q,u,h,_=>by simp at h
 |x::l,0,j,q,u,h,hu=>by
  have h:x=q:=by simpa using h
  subst h;have hj:j<25:=by
   have:=(Array.getElem?_eq_some_iff.1 hu).1
   rwa [qwmp] at this
  show((pkC x.1 x.2).toList++pkCs l)[0*25+j]?=some u;rw[show 0*25+j=j by omega,List.getElem?_append_left (by rw[Array.length_toList,qwmp];exact hj)];simpa using hu
 |x::l,i+1,j,q,u,h,hu=>by have ih:=qlyl l i j q u (by simpa using h) hu;show((pkC x.1 x.2).toList++pkCs l)[(i+1)*25+j]?=some u;rw[List.getElem?_append_right (by rw[Array.length_toList,qwmp];omega),Array.length_toList,qwmp,show(i+1)*25+j-25=i*25+j by omega];exact ih
theorem qck1(l:List Pa):∀u∈pkCs l,u.oneCell'=true:=fun u hu=>by obtain⟨q,_,hq⟩:=List.mem_flatMap.1 hu;exact(Array.all_eq_true'.1 (qmz0 q.1 q.2)) u (by simpa using hq)
structure PKL(W:World)(A:Option Addr)(l:List Pa):Prop where
 cl:CL W A (pkCs l)
 each:∀q∈l,PkAt W q.1 q.2
section
variable{W W':World}{A:Option Addr}{l m:List Pa}{q:Pa}
theorem PKL.nil:PKL W A []:=⟨CL.nil,fun _ h=>(nomatch h)⟩
theorem PKL.below(h:PKL W A l)(hb:Below W.heap.size W W'):PKL W' A l:=⟨h.cl.below hb,fun q hq=>(h.each q hq).below hb⟩
theorem PKL.at(h:PKL W A l){i:Nat}(hi:l[i]?=some q):∃g o,A=some ⟨g,o,none⟩/\g<W.heap.size/\∀(j:Nat) (u:Value),(pkC q.1 q.2)[j]?=some u->W.cell? ⟨g,o+i*25+j,none⟩=some u:=by
 have hne:pkCs l≠[]:=fun e=>by have h1:=qlyl l i 0 q _ hi (show(pkC q.1 q.2)[0]?=some _ from rfl);rw[e] at h1;cases h1
 obtain⟨g,o,e,hg,hc⟩:=h.cl hne;refine⟨g,o,e,hg,fun j u hu=>?_⟩;rw[Nat.add_assoc];exact hc _ _ (qlyl l i j q u hi hu)
theorem PKL.get(h:PKL W A l){i:Nat}(hi:l[i]?=some q):PkAt W q.1 q.2:=h.each q (List.mem_of_getElem? hi)
end
theorem qgtk(A B:Option Addr)(na nb c d:Nat)(l m:List Pr)(w:World)(hA:PL w A l)(hB:PL w B m)(hla:l.length=na)(hlb:m.length=nb)(hN:na<=70000)(hM:nb<=70000) :
 Calls prog 38 #[.slice A na c,.slice B nb d] w fun e w'=>e=.returned (.bool (decide (l=m)))/\∃k,w'=w.drewN k:=by
 by_cases hn:na=nb
 ·subst hn;obtain⟨D,hD⟩:∃D,decide (l=m)=D:=⟨_,rfl⟩
  rw[hD];have HD:=hid hD;have HA:=hid hA;have HB:=hid hB;have HLA:=hid hla;have HLB:=hid hlb;have q0:(na:Int)<=70000:=by omega
  clear hA hB hla hlb hN hM hD;go_in;go_wp2_with fail
  go_loopg [5] na (fun gk i wr=>∃k x:Nat,k<=na/\gk=na-k/\i=.int .i64 (k:Int)/\wr=w.drewN x/\∀j p q,j<k->l[j]?=some p->m[j]?=some q->p=q)
  case atStart=>exact⟨0,0,Nat.zero_le _,rfl,rfl,rfl,fun j p q h=>by omega⟩
  case round=>
   obtain⟨k,x,hk,rfl,rfl,rfl,hS⟩:=hrel;have HS:=hid hS;by_cases hlt:k<na
   ·have hkl:k<l.length:=by rw[HLA.out];exact hlt
    have hkm:k<m.length:=by rw[HLB.out];exact hlt
    obtain⟨p,hp⟩:∃p,l[k]?=some p:=⟨_,List.getElem?_eq_getElem hkl⟩
    obtain⟨q,hq⟩:∃q,m[k]?=some q:=⟨_,List.getElem?_eq_getElem hkm⟩
    obtain⟨ga,ia,rfl,_,a0,a1,a2,a3⟩:=HA.out.at hp;obtain⟨gb,ib,rfl,_,b0,b1,b2,b3⟩:=HB.out.at hq;have HP:=hid hp;have HQ:=hid hq;have HL:=hid hlt;have g1:(k:Int)<(na:Int):=by omega
    have hno:p≠q->D=false:=fun h=>by rw[<-HD.out];exact decide_eq_false fun e=>h (by subst e;exact Option.some.inj (HP.out.symm.trans HQ.out))
    have HNO:=hid hno;clear hS hkl hkm hp hq hlt hk hno;rcases qzlf p q with h|h|⟨h1,h2⟩|⟨h1,h2,h3⟩|⟨h1,h2,h3,h4⟩
    ·subst h;generalize p.id=x0 at a0 b0;generalize ((p.n:Nat):Int)=x1 at a1 b1;generalize bs p.text=x2 at a2 b2;generalize bs p.value=x3 at a3 b3;go_wp2_with fail;go_quiet (fail);go_wp2_with fail
     go_roundg (na-(k+1))
     case measure=>have:=HL.out;omega
     case rel=>
      refine⟨k+1,_,by have:=HL.out;omega,rfl,by go_num,rfl,fun j u v hj hu hv=>?_⟩;by_cases hjk:j=k
      ·subst hjk;exact Option.some.inj ((hu.symm.trans HP.out).trans (HQ.out.symm.trans hv))
      ·exact HS.out j u v (by omega) hu hv
    ·have hD:=HNO.out (fun e=>by rw[e] at h;simp at h);subst hD;generalize p.id=x0 at *;generalize ((p.n:Nat):Int)=x1 at *;generalize bs p.text=x2 at *;generalize bs p.value=x3 at *;generalize q.id=y0 at *;generalize ((q.n:Nat):Int)=y1 at *;generalize bs q.text=y2 at *;generalize bs q.value=y3 at *;go_wp2_with fail;go_quiet (fail);go_wp2;go_ret;exact⟨rfl,_,qgiq _ _ _⟩
    ·have hD:=HNO.out (fun e=>by rw[e] at h2;simp at h2);subst hD;rw[h1] at a0;clear h1;generalize p.id=x0 at *;generalize ((p.n:Nat):Int)=x1 at *;generalize bs p.text=x2 at *;generalize bs p.value=x3 at *;generalize q.id=y0 at *;generalize ((q.n:Nat):Int)=y1 at *;generalize bs q.text=y2 at *;generalize bs q.value=y3 at *;go_wp2_with fail;go_quiet (fail);go_wp2;go_ret;exact⟨rfl,_,qgiq _ _ _⟩
    ·have hD:=HNO.out (fun e=>by rw[e] at h3;simp at h3);subst hD;rw[h1] at a0;rw[h2] at a1;clear h1 h2;generalize p.id=x0 at *;generalize ((p.n:Nat):Int)=x1 at *;generalize bs p.text=x2 at *;generalize bs p.value=x3 at *;generalize q.id=y0 at *;generalize ((q.n:Nat):Int)=y1 at *;generalize bs q.text=y2 at *;generalize bs q.value=y3 at *;go_wp2_with fail;go_quiet (fail);go_wp2;go_ret;exact⟨rfl,_,qgiq _ _ _⟩
    ·have hD:=HNO.out (fun e=>by rw[e] at h4;simp at h4);subst hD;rw[h1] at a0;rw[h2] at a1;rw[h3] at a2;clear h1 h2 h3;generalize p.id=x0 at *;generalize ((p.n:Nat):Int)=x1 at *;generalize bs p.text=x2 at *;generalize bs p.value=x3 at *;generalize q.id=y0 at *;generalize ((q.n:Nat):Int)=y1 at *;generalize bs q.text=y2 at *;generalize bs q.value=y3 at *;go_wp2_with fail;go_quiet (fail);go_wp2;go_ret;exact⟨rfl,_,qgiq _ _ _⟩
   ·obtain rfl:k=na:=by omega
    have hD:D=true:=by rw[<-HD.out];exact decide_eq_true (qs8g HLA.out HLB.out hS)
    subst hD;clear hS hlt hk;go_wp2;go_ret;exact⟨rfl,_,rfl⟩
 ·have hD:decide (l=m)=false:=decide_eq_false fun e=>hn (by rw[<-hla,<-hlb,e]);have q0:((na:Int) != (nb:Int))=true:=by rw[bne_iff_ne];omega
  rw[hD];clear hA hB hla hlb hN hM hD hn;go_in;go_wp2;go_ret;exact⟨rfl,0,rfl⟩
theorem qfzm(A B:Option Addr)(na nb c d:Nat)(l m:List Int)(w:World)(hA:CL w A (ics l))(hB:CL w B (ics m))(hla:l.length=na)(hlb:m.length=nb)(hN:na<=70000)(hM:nb<=70000) :
 Calls prog 36 #[.slice A na c,.slice B nb d] w fun e w'=>e=.returned (.bool (decide (l=m)))/\∃k,w'=w.drewN k:=by
 by_cases hn:na=nb
 ·subst hn;obtain⟨D,hD⟩:∃D,decide (l=m)=D:=⟨_,rfl⟩
  rw[hD];have HD:=hid hD;have HA:=hid hA;have HB:=hid hB;have HLA:=hid hla;have HLB:=hid hlb;have q0:(na:Int)<=70000:=by omega
  clear hA hB hla hlb hN hM hD;go_in;go_wp2_with fail
  go_loopg [5] na (fun gk i wr=>∃k x:Nat,k<=na/\gk=na-k/\i=.int .i64 (k:Int)/\wr=w.drewN x/\∀j p q,j<k->l[j]?=some p->m[j]?=some q->p=q)
  case atStart=>exact⟨0,0,Nat.zero_le _,rfl,rfl,rfl,fun j p q h=>by omega⟩
  case round=>
   obtain⟨k,x,hk,rfl,rfl,rfl,hS⟩:=hrel;have HS:=hid hS;by_cases hlt:k<na
   ·have hkl:k<l.length:=by rw[HLA.out];exact hlt
    have hkm:k<m.length:=by rw[HLB.out];exact hlt
    obtain⟨p,hp⟩:∃p,l[k]?=some p:=⟨_,List.getElem?_eq_getElem hkl⟩
    obtain⟨q,hq⟩:∃q,m[k]?=some q:=⟨_,List.getElem?_eq_getElem hkm⟩
    obtain⟨ga,ia,rfl,_,a0⟩:=HA.out.int hp;obtain⟨gb,ib,rfl,_,b0⟩:=HB.out.int hq;have HP:=hid hp;have HQ:=hid hq;have HL:=hid hlt;have g1:(k:Int)<(na:Int):=by omega
    have hno:p≠q->D=false:=fun h=>by rw[<-HD.out];exact decide_eq_false fun e=>h (by subst e;exact Option.some.inj (HP.out.symm.trans HQ.out))
    have HNO:=hid hno;clear hS hkl hkm hp hq hlt hk hno;rcases qd1x p q with h|h
    ·subst h;go_wp2_with fail;go_quiet (fail);go_wp2_with fail
     go_roundg (na-(k+1))
     case measure=>have:=HL.out;omega
     case rel=>
      refine⟨k+1,_,by have:=HL.out;omega,rfl,by go_num,rfl,fun j u v hj hu hv=>?_⟩;by_cases hjk:j=k
      ·subst hjk;exact Option.some.inj ((hu.symm.trans HP.out).trans (HQ.out.symm.trans hv))
      ·exact HS.out j u v (by omega) hu hv
    ·have hD:=HNO.out (fun e=>by rw[e] at h;simp at h);subst hD;go_wp2_with fail;go_quiet (fail);go_wp2;go_ret;exact⟨rfl,_,qgiq _ _ _⟩
   ·obtain rfl:k=na:=by omega
    have hD:D=true:=by rw[<-HD.out];exact decide_eq_true (qs8g HLA.out HLB.out hS)
    subst hD;clear hS hlt hk;go_wp2;go_ret;exact⟨rfl,_,rfl⟩
 ·have hD:decide (l=m)=false:=decide_eq_false fun e=>hn (by rw[<-hla,<-hlb,e]);have q0:((na:Int) != (nb:Int))=true:=by rw[bne_iff_ne];omega
  rw[hD];clear hA hB hla hlb hN hM hD hn;go_in;go_wp2;go_ret;exact⟨rfl,0,rfl⟩
theorem qoah(A B:Option Addr)(na nb c d:Nat)(l m:List Fi)(w:World)(hA:CL w A (fcs l))(hB:CL w B (fcs m))(hla:l.length=na)(hlb:m.length=nb)(hN:na<=70000)(hM:nb<=70000) :
 Calls prog 37 #[.slice A na c,.slice B nb d] w fun e w'=>e=.returned (.bool (decide (l=m)))/\∃k,w'=w.drewN k:=by
 by_cases hn:na=nb
 ·subst hn;obtain⟨D,hD⟩:∃D,decide (l=m)=D:=⟨_,rfl⟩
  rw[hD];have HD:=hid hD;have HA:=hid hA;have HB:=hid hB;have HLA:=hid hla;have HLB:=hid hlb;have q0:(na:Int)<=70000:=by omega
  clear hA hB hla hlb hN hM hD;go_in;go_wp2_with fail
  go_loopg [5] na (fun gk i wr=>∃k x:Nat,k<=na/\gk=na-k/\i=.int .i64 (k:Int)/\wr=w.drewN x/\∀j p q,j<k->l[j]?=some p->m[j]?=some q->p=q)
  case atStart=>exact⟨0,0,Nat.zero_le _,rfl,rfl,rfl,fun j p q h=>by omega⟩
  case round=>
   obtain⟨k,x,hk,rfl,rfl,rfl,hS⟩:=hrel;have HS:=hid hS;by_cases hlt:k<na
   ·have hkl:k<l.length:=by rw[HLA.out];exact hlt
    have hkm:k<m.length:=by rw[HLB.out];exact hlt
    obtain⟨p,hp⟩:∃p,l[k]?=some p:=⟨_,List.getElem?_eq_getElem hkl⟩
    obtain⟨q,hq⟩:∃q,m[k]?=some q:=⟨_,List.getElem?_eq_getElem hkm⟩
    obtain⟨ga,ia,rfl,_,a0,a1,a2,a3,a4⟩:=HA.out.fi hp;obtain⟨gb,ib,rfl,_,b0,b1,b2,b3,b4⟩:=HB.out.fi hq;have HP:=hid hp;have HQ:=hid hq;have HL:=hid hlt;have g1:(k:Int)<(na:Int):=by omega
    have hno:p≠q->D=false:=fun h=>by rw[<-HD.out];exact decide_eq_false fun e=>h (by subst e;exact Option.some.inj (HP.out.symm.trans HQ.out))
    have HNO:=hid hno;clear hS hkl hkm hp hq hlt hk hno;rcases qpuj p q with h|h|⟨h1,h2⟩|⟨h1,h2,h3⟩|⟨h1,h2,h3,h4⟩|⟨h1,h2,h3,h4,h5⟩
    ·subst h;generalize bs p.topic=x0 at a0 b0;generalize p.qos=x1 at a1 b1;generalize p.noLocal=x2 at a2 b2;generalize p.asPub=x3 at a3 b3;generalize p.handling=x4 at a4 b4;go_wp2_with fail;go_quiet (fail);go_wp2_with fail
     go_roundg (na-(k+1))
     case measure=>have:=HL.out;omega
     case rel=>
      refine⟨k+1,_,by have:=HL.out;omega,rfl,by go_num,rfl,fun j u v hj hu hv=>?_⟩;by_cases hjk:j=k
      ·subst hjk;exact Option.some.inj ((hu.symm.trans HP.out).trans (HQ.out.symm.trans hv))
      ·exact HS.out j u v (by omega) hu hv
    ·have hD:=HNO.out (fun e=>by rw[e] at h;simp at h);subst hD;generalize bs p.topic=x0 at *;generalize p.qos=x1 at *;generalize p.noLocal=x2 at *;generalize p.asPub=x3 at *;generalize p.handling=x4 at *;generalize bs q.topic=y0 at *;generalize q.qos=y1 at *;generalize q.noLocal=y2 at *;generalize q.asPub=y3 at *;generalize q.handling=y4 at *;go_wp2_with fail;go_quiet (fail);go_wp2;go_ret;exact⟨rfl,_,qgiq _ _ _⟩
    ·have hD:=HNO.out (fun e=>by rw[e] at h2;simp at h2);subst hD;rw[h1] at a0;clear h1;generalize bs p.topic=x0 at *;generalize p.qos=x1 at *;generalize p.noLocal=x2 at *;generalize p.asPub=x3 at *;generalize p.handling=x4 at *;generalize bs q.topic=y0 at *;generalize q.qos=y1 at *;generalize q.noLocal=y2 at *;generalize q.asPub=y3 at *;generalize q.handling=y4 at *;go_wp2_with fail;go_quiet (fail);go_wp2;go_ret;exact⟨rfl,_,qgiq _ _ _⟩
    ·have hD:=HNO.out (fun e=>by rw[e] at h3;simp at h3);subst hD;rw[h1] at a0;rw[h2] at a1;clear h1 h2;generalize bs p.topic=x0 at *;generalize p.qos=x1 at *;generalize p.noLocal=x2 at *;generalize p.asPub=x3 at *;generalize p.handling=x4 at *;generalize bs q.topic=y0 at *;generalize q.qos=y1 at *;generalize q.noLocal=y2 at *;generalize q.asPub=y3 at *;generalize q.handling=y4 at *;go_wp2_with fail;go_quiet (fail);go_wp2;go_ret;exact⟨rfl,_,qgiq _ _ _⟩
    ·have hD:=HNO.out (fun e=>by rw[e] at h4;simp at h4);subst hD;rw[h1] at a0;rw[h2] at a1;rw[h3] at a2;clear h1 h2 h3;generalize bs p.topic=x0 at *;generalize p.qos=x1 at *;generalize p.noLocal=x2 at *;generalize p.asPub=x3 at *;generalize p.handling=x4 at *;generalize bs q.topic=y0 at *;generalize q.qos=y1 at *;generalize q.noLocal=y2 at *;generalize q.asPub=y3 at *;generalize q.handling=y4 at *;go_wp2_with fail;go_quiet (fail);go_wp2;go_ret;exact⟨rfl,_,qgiq _ _ _⟩
    ·have hD:=HNO.out (fun e=>by rw[e] at h5;simp at h5);subst hD;rw[h1] at a0;rw[h2] at a1;rw[h3] at a2;rw[h4] at a3;clear h1 h2 h3 h4;generalize bs p.topic=x0 at *;generalize p.qos=x1 at *;generalize p.noLocal=x2 at *;generalize p.asPub=x3 at *;generalize p.handling=x4 at *;generalize bs q.topic=y0 at *;generalize q.qos=y1 at *;generalize q.noLocal=y2 at *;generalize q.asPub=y3 at *;generalize q.handling=y4 at *;go_wp2_with fail;go_quiet (fail);go_wp2;go_ret;exact⟨rfl,_,qgiq _ _ _⟩
   ·obtain rfl:k=na:=by omega
    have hD:D=true:=by rw[<-HD.out];exact decide_eq_true (qs8g HLA.out HLB.out hS)
    subst hD;clear hS hlt hk;go_wp2;go_ret;exact⟨rfl,_,rfl⟩
 ·have hD:decide (l=m)=false:=decide_eq_false fun e=>hn (by rw[<-hla,<-hlb,e]);have q0:((na:Int) != (nb:Int))=true:=by rw[bne_iff_ne];omega
  rw[hD];clear hA hB hla hlb hN hM hD hn;go_in;go_wp2;go_ret;exact⟨rfl,0,rfl⟩
theorem q08q(t u:ByteArray)(q:Int)(r:Bool)(A B:Option Addr)(n c d:Nat)(l:List Pr)(w:World)(hA:PL w A l)(hB:PL w B l)(hn:l.length=n)(hl:n<=70000) :
 Calls prog 35 #[.agg #[.string t,.string u,.int .i64 q,.bool r,.slice A n c],.agg #[.string t,.string u,.int .i64 q,.bool r,.slice B n d]] w fun e w'=>e=.returned (.bool true)/\Below w.heap.size w w':=by
 have HB:=hid (fun o o'=>qxh2 (qybm (w:=w) o) (qybm o'));have EQ:=hid (fun o o'=>qgtk A B n n c d l l ((w.alloc o).alloc o') (hA.below (qxh2 (qybm _) (qybm _))) (hB.below (qxh2 (qybm _) (qybm _))) hn hn hl hl);simp only[decide_true] at EQ;clear hA hB hn hl;go_in;go_wp2_with fail;refine(EQ.out _ _).mono ?_;rintro e w1 ⟨rfl,m,rfl⟩;go_wp2;go_ret;exact⟨rfl,qnpu (HB.out _ _) m⟩
theorem qbsf(p:Pk)(a b:Ad)(w:World)(hp:PkAt w p a)(hq:PkAt w p b)(h1:p.codes.length<=70000)(h2:p.filters.length<=70000)(h3:p.props.length<=70000)(h4:p.wProps.length<=70000) :
 Calls prog 26 #[pkV p a,pkV p b] w fun e w'=>e=.returned (.bool true)/\Below w.heap.size w w':=by
 have hbx:Below w.heap.size w ((w.alloc (.cells (pkC p a) 38)).alloc (.cells (pkC p b) 38)):=qxh2 (qybm _) (qybm _);have HB:=hid hbx;have WL:=fun W (hb:Below w.heap.size w W)=>q08q (bs p.wTopic) (bs p.wPayload) p.wQos p.wRetain a.w b.w p.wProps.length a.wc b.wc p.wProps W (hp.w.below hb) (hq.w.below hb) rfl h4;have CO:=fun W (hb:Below w.heap.size w W)=>qfzm a.cs b.cs _ _ a.cc b.cc p.codes p.codes W (hp.cs.below hb) (hq.cs.below hb) rfl rfl h1 h1;have FI:=fun W (hb:Below w.heap.size w W)=>qoah a.fs b.fs _ _ a.fc b.fc p.filters p.filters W (hp.fs.below hb) (hq.fs.below hb) rfl rfl h2 h2;have PR:=fun W (hb:Below w.heap.size w W)=>qgtk a.ps b.ps _ _ a.pc b.pc p.props p.props W (hp.ps.below hb) (hq.ps.below hb) rfl rfl h3 h3;simp only[decide_true] at CO FI PR;have GA:=hid (heap_alloc2_old w (.cells (pkC p a) 38) (.cells (pkC p b) 38));have GB:=hid (heap_alloc2_new w (.cells (pkC p a) 38) (.cells (pkC p b) 38));clear hbx hp hq h1 h2 h3 h4;unfold pkV;have c0:(pkC p a)[0]?=some (.int .i64 p.kind):=rfl;have c1:(pkC p a)[1]?=some (.bool p.dup):=rfl;have c2:(pkC p a)[2]?=some (.bool p.retain):=rfl;have c3:(pkC p a)[3]?=some (.int .i64 p.qos):=rfl;have c4:(pkC p a)[4]?=some (.int .i64 p.id):=rfl;have c5:(pkC p a)[5]?=some (.string (bs p.topic)):=rfl;have c6:(pkC p a)[6]?=some (.string (bs p.payload)):=rfl;have c7:(pkC p a)[7]?=some (.bool p.clean):=rfl;have c8:(pkC p a)[8]?=some (.int .i64 p.keep):=rfl;have c9:(pkC p a)[9]?=some (.string (bs p.client)):=rfl;have c10:(pkC p a)[10]?=some (.bool p.hasUser):=rfl;have c11:(pkC p a)[11]?=some (.string (bs p.user)):=rfl;have c12:(pkC p a)[12]?=some (.bool p.hasPass):=rfl;have c13:(pkC p a)[13]?=some (.string (bs p.pass)):=rfl;have c14:(pkC p a)[14]?=some (.bool p.hasWill):=rfl;have c15:(pkC p a)[15]?=some (.string (bs p.wTopic)):=rfl;have c16:(pkC p a)[16]?=some (.string (bs p.wPayload)):=rfl;have c17:(pkC p a)[17]?=some (.int .i64 p.wQos):=rfl;have c18:(pkC p a)[18]?=some (.bool p.wRetain):=rfl;have c19:(pkC p a)[19]?=some (.slice a.w p.wProps.length a.wc):=rfl;have c20:(pkC p a)[20]?=some (.bool p.session):=rfl;have c21:(pkC p a)[21]?=some (.int .i64 p.code):=rfl;have c22:(pkC p a)[22]?=some (.slice a.cs p.codes.length a.cc):=rfl;have c23:(pkC p a)[23]?=some (.slice a.fs p.filters.length a.fc):=rfl;have c24:(pkC p a)[24]?=some (.slice a.ps p.props.length a.pc):=rfl;have e0:(pkC p b)[0]?=some (.int .i64 p.kind):=rfl;have e1:(pkC p b)[1]?=some (.bool p.dup):=rfl;have e2:(pkC p b)[2]?=some (.bool p.retain):=rfl;have e3:(pkC p b)[3]?=some (.int .i64 p.qos):=rfl;have e4:(pkC p b)[4]?=some (.int .i64 p.id):=rfl;have e5:(pkC p b)[5]?=some (.string (bs p.topic)):=rfl;have e6:(pkC p b)[6]?=some (.string (bs p.payload)):=rfl;have e7:(pkC p b)[7]?=some (.bool p.clean):=rfl;have e8:(pkC p b)[8]?=some (.int .i64 p.keep):=rfl;have e9:(pkC p b)[9]?=some (.string (bs p.client)):=rfl;have e10:(pkC p b)[10]?=some (.bool p.hasUser):=rfl;have e11:(pkC p b)[11]?=some (.string (bs p.user)):=rfl;have e12:(pkC p b)[12]?=some (.bool p.hasPass):=rfl;have e13:(pkC p b)[13]?=some (.string (bs p.pass)):=rfl;have e14:(pkC p b)[14]?=some (.bool p.hasWill):=rfl;have e15:(pkC p b)[15]?=some (.string (bs p.wTopic)):=rfl;have e16:(pkC p b)[16]?=some (.string (bs p.wPayload)):=rfl;have e17:(pkC p b)[17]?=some (.int .i64 p.wQos):=rfl;have e18:(pkC p b)[18]?=some (.bool p.wRetain):=rfl;have e19:(pkC p b)[19]?=some (.slice b.w p.wProps.length b.wc):=rfl;have e20:(pkC p b)[20]?=some (.bool p.session):=rfl;have e21:(pkC p b)[21]?=some (.int .i64 p.code):=rfl;have e22:(pkC p b)[22]?=some (.slice b.cs p.codes.length b.cc):=rfl;have e23:(pkC p b)[23]?=some (.slice b.fs p.filters.length b.fc):=rfl;have e24:(pkC p b)[24]?=some (.slice b.ps p.props.length b.pc):=rfl;generalize pkC p a=C at *;generalize pkC p b=E at *;generalize p.kind=v0 at *;generalize p.dup=v1 at *;generalize p.retain=v2 at *;generalize p.qos=v3 at *;generalize p.id=v4 at *;generalize bs p.topic=v5 at *;generalize bs p.payload=v6 at *;generalize p.clean=v7 at *;generalize p.keep=v8 at *;generalize bs p.client=v9 at *;generalize p.hasUser=v10 at *;generalize bs p.user=v11 at *;generalize p.hasPass=v12 at *;generalize bs p.pass=v13 at *;generalize p.hasWill=v14 at *;generalize bs p.wTopic=v15 at *;generalize bs p.wPayload=v16 at *;generalize p.wQos=v17 at *;generalize p.wRetain=v18 at *;generalize p.session=v20 at *;generalize p.code=v21 at *;generalize p.wProps.length=n19 at *;generalize p.codes.length=n22 at *;generalize p.filters.length=n23 at *;generalize p.props.length=n24 at *;have WL:=hid WL;have CO:=hid CO;have FI:=hid FI;have PR:=hid PR;go_in;go_wp2_with fail;refine(WL.out _ HB.out).mono ?_;rintro e W1 ⟨rfl,hb⟩;have B1:=hid (qxh2 HB.out hb);have GA1:=hid ((hb.block _ (lt_of_block GA.out)).trans GA.out);have GB1:=hid ((hb.block _ (lt_of_block GB.out)).trans GB.out);clear hb;have c0':W1.cell? ⟨w.heap.size,0,none⟩=_:=(cell_of_row _ _ 0 _ _ _ GA1.out).trans c0;have c1':W1.cell? ⟨w.heap.size,1,none⟩=_:=(cell_of_row _ _ 1 _ _ _ GA1.out).trans c1;have c2':W1.cell? ⟨w.heap.size,2,none⟩=_:=(cell_of_row _ _ 2 _ _ _ GA1.out).trans c2;have c3':W1.cell? ⟨w.heap.size,3,none⟩=_:=(cell_of_row _ _ 3 _ _ _ GA1.out).trans c3;have c4':W1.cell? ⟨w.heap.size,4,none⟩=_:=(cell_of_row _ _ 4 _ _ _ GA1.out).trans c4;have c5':W1.cell? ⟨w.heap.size,5,none⟩=_:=(cell_of_row _ _ 5 _ _ _ GA1.out).trans c5;have c6':W1.cell? ⟨w.heap.size,6,none⟩=_:=(cell_of_row _ _ 6 _ _ _ GA1.out).trans c6;have c7':W1.cell? ⟨w.heap.size,7,none⟩=_:=(cell_of_row _ _ 7 _ _ _ GA1.out).trans c7;have c8':W1.cell? ⟨w.heap.size,8,none⟩=_:=(cell_of_row _ _ 8 _ _ _ GA1.out).trans c8;have c9':W1.cell? ⟨w.heap.size,9,none⟩=_:=(cell_of_row _ _ 9 _ _ _ GA1.out).trans c9;have c10':W1.cell? ⟨w.heap.size,10,none⟩=_:=(cell_of_row _ _ 10 _ _ _ GA1.out).trans c10;have c11':W1.cell? ⟨w.heap.size,11,none⟩=_:=(cell_of_row _ _ 11 _ _ _ GA1.out).trans c11;have c12':W1.cell? ⟨w.heap.size,12,none⟩=_:=(cell_of_row _ _ 12 _ _ _ GA1.out).trans c12;have c13':W1.cell? ⟨w.heap.size,13,none⟩=_:=(cell_of_row _ _ 13 _ _ _ GA1.out).trans c13;have c14':W1.cell? ⟨w.heap.size,14,none⟩=_:=(cell_of_row _ _ 14 _ _ _ GA1.out).trans c14;have c15':W1.cell? ⟨w.heap.size,15,none⟩=_:=(cell_of_row _ _ 15 _ _ _ GA1.out).trans c15;have c16':W1.cell? ⟨w.heap.size,16,none⟩=_:=(cell_of_row _ _ 16 _ _ _ GA1.out).trans c16;have c17':W1.cell? ⟨w.heap.size,17,none⟩=_:=(cell_of_row _ _ 17 _ _ _ GA1.out).trans c17;have c18':W1.cell? ⟨w.heap.size,18,none⟩=_:=(cell_of_row _ _ 18 _ _ _ GA1.out).trans c18;have c19':W1.cell? ⟨w.heap.size,19,none⟩=_:=(cell_of_row _ _ 19 _ _ _ GA1.out).trans c19;have c20':W1.cell? ⟨w.heap.size,20,none⟩=_:=(cell_of_row _ _ 20 _ _ _ GA1.out).trans c20;have c21':W1.cell? ⟨w.heap.size,21,none⟩=_:=(cell_of_row _ _ 21 _ _ _ GA1.out).trans c21;have c22':W1.cell? ⟨w.heap.size,22,none⟩=_:=(cell_of_row _ _ 22 _ _ _ GA1.out).trans c22;have c23':W1.cell? ⟨w.heap.size,23,none⟩=_:=(cell_of_row _ _ 23 _ _ _ GA1.out).trans c23;have c24':W1.cell? ⟨w.heap.size,24,none⟩=_:=(cell_of_row _ _ 24 _ _ _ GA1.out).trans c24;have e0':W1.cell? ⟨w.heap.size+1,0,none⟩=_:=(cell_of_row _ _ 0 _ _ _ GB1.out).trans e0;have e1':W1.cell? ⟨w.heap.size+1,1,none⟩=_:=(cell_of_row _ _ 1 _ _ _ GB1.out).trans e1;have e2':W1.cell? ⟨w.heap.size+1,2,none⟩=_:=(cell_of_row _ _ 2 _ _ _ GB1.out).trans e2;have e3':W1.cell? ⟨w.heap.size+1,3,none⟩=_:=(cell_of_row _ _ 3 _ _ _ GB1.out).trans e3;have e4':W1.cell? ⟨w.heap.size+1,4,none⟩=_:=(cell_of_row _ _ 4 _ _ _ GB1.out).trans e4;have e5':W1.cell? ⟨w.heap.size+1,5,none⟩=_:=(cell_of_row _ _ 5 _ _ _ GB1.out).trans e5;have e6':W1.cell? ⟨w.heap.size+1,6,none⟩=_:=(cell_of_row _ _ 6 _ _ _ GB1.out).trans e6;have e7':W1.cell? ⟨w.heap.size+1,7,none⟩=_:=(cell_of_row _ _ 7 _ _ _ GB1.out).trans e7;have e8':W1.cell? ⟨w.heap.size+1,8,none⟩=_:=(cell_of_row _ _ 8 _ _ _ GB1.out).trans e8;have e9':W1.cell? ⟨w.heap.size+1,9,none⟩=_:=(cell_of_row _ _ 9 _ _ _ GB1.out).trans e9;have e10':W1.cell? ⟨w.heap.size+1,10,none⟩=_:=(cell_of_row _ _ 10 _ _ _ GB1.out).trans e10;have e11':W1.cell? ⟨w.heap.size+1,11,none⟩=_:=(cell_of_row _ _ 11 _ _ _ GB1.out).trans e11;have e12':W1.cell? ⟨w.heap.size+1,12,none⟩=_:=(cell_of_row _ _ 12 _ _ _ GB1.out).trans e12;have e13':W1.cell? ⟨w.heap.size+1,13,none⟩=_:=(cell_of_row _ _ 13 _ _ _ GB1.out).trans e13;have e14':W1.cell? ⟨w.heap.size+1,14,none⟩=_:=(cell_of_row _ _ 14 _ _ _ GB1.out).trans e14;have e15':W1.cell? ⟨w.heap.size+1,15,none⟩=_:=(cell_of_row _ _ 15 _ _ _ GB1.out).trans e15;have e16':W1.cell? ⟨w.heap.size+1,16,none⟩=_:=(cell_of_row _ _ 16 _ _ _ GB1.out).trans e16;have e17':W1.cell? ⟨w.heap.size+1,17,none⟩=_:=(cell_of_row _ _ 17 _ _ _ GB1.out).trans e17;have e18':W1.cell? ⟨w.heap.size+1,18,none⟩=_:=(cell_of_row _ _ 18 _ _ _ GB1.out).trans e18;have e19':W1.cell? ⟨w.heap.size+1,19,none⟩=_:=(cell_of_row _ _ 19 _ _ _ GB1.out).trans e19;have e20':W1.cell? ⟨w.heap.size+1,20,none⟩=_:=(cell_of_row _ _ 20 _ _ _ GB1.out).trans e20;have e21':W1.cell? ⟨w.heap.size+1,21,none⟩=_:=(cell_of_row _ _ 21 _ _ _ GB1.out).trans e21;have e22':W1.cell? ⟨w.heap.size+1,22,none⟩=_:=(cell_of_row _ _ 22 _ _ _ GB1.out).trans e22;have e23':W1.cell? ⟨w.heap.size+1,23,none⟩=_:=(cell_of_row _ _ 23 _ _ _ GB1.out).trans e23;have e24':W1.cell? ⟨w.heap.size+1,24,none⟩=_:=(cell_of_row _ _ 24 _ _ _ GB1.out).trans e24;clear c0 c1 c2 c3 c4 c5 c6 c7 c8 c9 c10 c11 c12 c13 c14 c15 c16 c17 c18 c19 c20 c21 c22 c23 c24 e0 e1 e2 e3 e4 e5 e6 e7 e8 e9 e10 e11 e12 e13 e14 e15 e16 e17 e18 e19 e20 e21 e22 e23 e24;go_wp2_with fail;refine(CO.out _ B1.out).mono ?_;rintro e W2 ⟨rfl,m,rfl⟩;go_wp2_with fail;refine(FI.out _ (qnpu B1.out m)).mono ?_;rintro e W3 ⟨rfl,m2,rfl⟩;go_wp2_with fail;refine(PR.out _ (qnpu B1.out (m+m2))).mono ?_;rintro e W4 ⟨rfl,m3,rfl⟩;go_wp2;go_ret;exact⟨rfl,qnpu B1.out _⟩
end Go.Proofs.YtefmhbioggcfaaaGreatDoor
