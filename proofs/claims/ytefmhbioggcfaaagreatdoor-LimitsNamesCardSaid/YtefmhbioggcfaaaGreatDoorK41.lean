/- The library's functions on strings lie in this program as the library's contracts ask: strings.Split, stringslite.Index. No condition. -/
import Derived.Shelf.Strings.SplitShaped
import Derived.Test.YtefmhbioggcfaaaGreatDoorK27
import Derived.Test.YtefmhbioggcfaaaGreatDoorK21
import Derived.Test.YtefmhbioggcfaaaGreatDoorK40
import Derived.Test.YtefmhbioggcfaaaGreatDoorK13
set_option maxHeartbeats 1000000
namespace Go.Proofs.YtefmhbioggcfaaaGreatDoor
open Proofs.Tryz
open Go.Shelf
def qrma:Go.Shelf.Ren:=⟨fun|219=>300|217=>296|225=>290|224=>289|267=>303|266=>301|314=>304|n=>n,fun|9=>9|3=>3|4=>4|5=>5|46=>106|146=>305|51=>80|n=>n,fun|1=>0|n=>n⟩
theorem qcnx:Go.Proofs.Lays.n219 prog qrma:={
 mixed:=by kernel_rfl
 f217:=func296.trans (congrArg some (by kernel_rfl))
 f219:=func300.trans (congrArg some (by kernel_rfl))
 f224:=func289.trans (congrArg some (by kernel_rfl))
 f225:=func290.trans (congrArg some (by kernel_rfl))
 f266:=func301.trans (congrArg some (by kernel_rfl))
 f267:=func303.trans (congrArg some (by kernel_rfl))
 f314:=func304.trans (congrArg some (by kernel_rfl))
 t3:=underlying3
 a3:=Tryz.isAgg3
 z3:=Tryz.sizeOf3
 v3:=Tryz.zeroValue3
 t4:=underlying4
 a4:=Tryz.isAgg4
 z4:=Tryz.sizeOf4
 v4:=Tryz.zeroValue4
 t5:=underlying5
 a5:=Tryz.isAgg5
 z5:=Tryz.sizeOf5
 v5:=Tryz.zeroValue5
 t9:=underlying9
 a9:=Tryz.isAgg9
 z9:=Tryz.sizeOf9
 v9:=Tryz.zeroValue9
 t46:=underlying106
 a46:=Tryz.isAgg106
 z46:=Tryz.sizeOf106
 v46:=Tryz.zeroValue106
 t51:=underlying80
 a51:=Tryz.isAgg80
 z51:=Tryz.sizeOf80
 v51:=Tryz.zeroValue80
 t146:=underlying305
 a146:=Tryz.isAgg305
 z146:=Tryz.sizeOf305
 v146:=Tryz.zeroValue305
 g1:=by kernel_rfl}
def qc49:Go.Shelf.Ren:=⟨fun|146=>274|221=>283|268=>291|138=>292|143=>293|195=>297|197=>298|218=>299|219=>300|260=>302|217=>296|225=>290|224=>289|267=>303|266=>301|314=>304|n=>n,fun|9=>9|31=>40|3=>3|4=>4|0=>0|105=>299|21=>21|5=>5|46=>106|119=>301|139=>304|138=>303|146=>305|51=>80|n=>n,fun|1=>0|3=>1|4=>2|n=>n⟩
theorem qh9o:Go.Proofs.Lays.n146 prog qc49:={
 mixed:=by kernel_rfl
 f138:=func292.trans (congrArg some (by kernel_rfl))
 f143:=func293.trans (congrArg some (by kernel_rfl))
 f146:=func274.trans (congrArg some (by kernel_rfl))
 f195:=func297.trans (congrArg some (by kernel_rfl))
 f197:=func298.trans (congrArg some (by kernel_rfl))
 f217:=func296.trans (congrArg some (by kernel_rfl))
 f218:=func299.trans (congrArg some (by kernel_rfl))
 f219:=func300.trans (congrArg some (by kernel_rfl))
 f221:=func283.trans (congrArg some (by kernel_rfl))
 f224:=func289.trans (congrArg some (by kernel_rfl))
 f225:=func290.trans (congrArg some (by kernel_rfl))
 f260:=func302.trans (congrArg some (by kernel_rfl))
 f266:=func301.trans (congrArg some (by kernel_rfl))
 f267:=func303.trans (congrArg some (by kernel_rfl))
 f268:=func291.trans (congrArg some (by kernel_rfl))
 f314:=func304.trans (congrArg some (by kernel_rfl))
 t0:=underlying0
 a0:=Tryz.isAgg0
 z0:=Tryz.sizeOf0
 v0:=Tryz.zeroValue0
 t3:=underlying3
 a3:=Tryz.isAgg3
 z3:=Tryz.sizeOf3
 v3:=Tryz.zeroValue3
 t4:=underlying4
 a4:=Tryz.isAgg4
 z4:=Tryz.sizeOf4
 v4:=Tryz.zeroValue4
 t5:=underlying5
 a5:=Tryz.isAgg5
 z5:=Tryz.sizeOf5
 v5:=Tryz.zeroValue5
 t9:=underlying9
 a9:=Tryz.isAgg9
 z9:=Tryz.sizeOf9
 v9:=Tryz.zeroValue9
 t21:=underlying21
 a21:=Tryz.isAgg21
 z21:=Tryz.sizeOf21
 v21:=Tryz.zeroValue21
 t31:=underlying40
 a31:=Tryz.isAgg40
 z31:=Tryz.sizeOf40
 v31:=Tryz.zeroValue40
 t46:=underlying106
 a46:=Tryz.isAgg106
 z46:=Tryz.sizeOf106
 v46:=Tryz.zeroValue106
 t51:=underlying80
 a51:=Tryz.isAgg80
 z51:=Tryz.sizeOf80
 v51:=Tryz.zeroValue80
 t105:=underlying299
 a105:=Tryz.isAgg299
 z105:=Tryz.sizeOf299
 v105:=Tryz.zeroValue299
 t119:=underlying301
 a119:=Tryz.isAgg301
 z119:=Tryz.sizeOf301
 t138:=underlying303
 a138:=Tryz.isAgg303
 z138:=Tryz.sizeOf303
 v138:=Tryz.zeroValue303
 t139:=underlying304
 a139:=Tryz.isAgg304
 z139:=Tryz.sizeOf304
 v139:=Tryz.zeroValue304
 t146:=underlying305
 a146:=Tryz.isAgg305
 z146:=Tryz.sizeOf305
 v146:=Tryz.zeroValue305
 g1:=by kernel_rfl
 g3:=by kernel_rfl
 g4:=by kernel_rfl}
end Go.Proofs.YtefmhbioggcfaaaGreatDoor
namespace Go.Proofs.YtefmhbioggcfaaaGreatDoor
open Proofs.Tryz
open Go.RowKit Go.Shelf
theorem q4j6(s:ByteArray)(w:World)(hs:s.size<4000000000) :
 Calls prog 274 #[.string s,.string ⟨#[47]⟩] w fun e w'=>e=.returned (.slice (some ⟨w.heap.size,0,none⟩) (lvls s.data.toList).length (lvls s.data.toList).length)/\w'=w.alloc (.cells (strs (lvls s.data.toList)).toArray 9):=by
 have hle:=Lib.countB_le ⟨#[47]⟩ (by decide) s.size s (Nat.le_refl _);have hlen:=Lib.splitB_all ⟨#[47]⟩ (by decide) 0 _ s rfl;have c:Calls prog 283 #[.string s,.string ⟨#[47]⟩,.int .i64 0,.int .i64 (-1)] w fun e w'=>
  e=.returned (.slice (some ⟨w.heap.size,0,none⟩) (Lib.splitB ⟨#[47]⟩ 0 (Lib.countB s ⟨#[47]⟩+1-1) s).length (Lib.countB s ⟨#[47]⟩+1))/\w'=w.alloc (.cells (Lib.cellsOf (Lib.splitB ⟨#[47]⟩ 0 (Lib.countB s ⟨#[47]⟩+1-1) s) (Lib.countB s ⟨#[47]⟩+1)) 9):=
  Any.strings_genSplit_core {qh9o with} (by kernel_rfl) s ⟨#[47]⟩ 0 (-1) (Lib.countB s ⟨#[47]⟩+1) w (by omega) (by decide) (by decide)
   (fun x c hx=>(Any.strings_Index_one {qh9o with} x 47 _).mono fun e w' ⟨he,hw⟩=>⟨by
    rw[he]
    have:Lib.indexByte x.data.toList 47=Lib.indexB x ⟨#[47]⟩:=by
     show _=Lib.index x.data.toList [47];rcases qfnz x.data.toList with h|⟨a,b,h,h2⟩
     ·rw[q2df h,qq5q h]
     ·rw[h,q1pq a b h2,qhn0 a b h2]
    rw[this],hw⟩)
   ((
    Any.strings_Count_one {qh9o with} s 47 w).mono fun e w' ⟨he,hw⟩=>⟨by
    rw[he];show _=Ending.returned (Value.int .i64 ((Lib.count s.data.toList [47]:Nat):Int));rw[Lib.count_one]
    rfl,hw⟩) (by decide) (by decide) (by rw[if_pos (by decide)];omega)
 rw[Nat.add_sub_cancel,hlen,q2mb] at c;have e2:Lib.cellsOf (Lib.splitB ⟨#[47]⟩ 0 (Lib.countB s ⟨#[47]⟩) s) (lvls s.data.toList).length=(strs (lvls s.data.toList)).toArray:=by
  rw[<-q2mb,<-hlen,Lib.cellsOf_full,<-qb79,strs,List.map_map]
  rfl
 rw[e2] at c;have c:=Lib.hid c;clear hle hlen e2;go_in;go_wp2_with fail;refine(c.out).mono ?_;rintro e w' ⟨rfl,rfl⟩;go_wp2;go_ret;exact⟨rfl,rfl⟩
theorem qi28(s:ByteArray)(w:World)(hs:s.size<4000000000) :
 Calls prog 250 #[.string s] w fun e w'=>e=.returned (.slice (some ⟨w.heap.size,0,none⟩) (lvls s.data.toList).length (lvls s.data.toList).length)/\w'=w.alloc (.cells (strs (lvls s.data.toList)).toArray 9):=by
 have c:=Lib.hid (q4j6 s w hs);go_in;go_wp2_with fail;refine(c.out).mono ?_;rintro e w' ⟨rfl,rfl⟩;go_wp2;go_ret;exact⟨rfl,rfl⟩
end Go.Proofs.YtefmhbioggcfaaaGreatDoor
