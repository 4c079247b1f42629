/- The library's functions on strings lie in this program as the library's contracts ask: strings.Split, stringslite.Index. No condition. -/
import Derived.Shelf.Strings.SplitShaped
import Derived.Test.YtombgnfedafkjaaGreatDoorK32
import Derived.Test.YtombgnfedafkjaaGreatDoorK26
import Derived.Test.YtombgnfedafkjaaGreatDoorK41
import Derived.Test.YtombgnfedafkjaaGreatDoorK11
import Derived.Test.YtombgnfedafkjaaGreatDoorK15
set_option maxHeartbeats 1000000
namespace Go.Proofs.YtombgnfedafkjaaGreatDoor
open Proofs.Tryz
open Go.Shelf
def qrma:Go.Shelf.Ren:=⟨fun|219=>278|217=>274|225=>268|224=>267|267=>281|266=>279|314=>282|n=>n,fun|9=>9|3=>3|4=>4|5=>5|46=>111|146=>273|51=>72|n=>n,fun|1=>0|n=>n⟩
theorem qcnx:Go.Proofs.Lays.n219 prog qrma:={
 mixed:=by kernel_rfl
 f217:=func274.trans (congrArg some (by kernel_rfl))
 f219:=func278.trans (congrArg some (by kernel_rfl))
 f224:=func267.trans (congrArg some (by kernel_rfl))
 f225:=func268.trans (congrArg some (by kernel_rfl))
 f266:=func279.trans (congrArg some (by kernel_rfl))
 f267:=func281.trans (congrArg some (by kernel_rfl))
 f314:=func282.trans (congrArg some (by kernel_rfl))
 t3:=underlying3
 a3:=Tryz.isAgg3
 z3:=Tryz.sizeOf3
 v3:=Tryz.zeroValue3
 t4:=underlying4
 a4:=Tryz.isAgg4
 z4:=Tryz.sizeOf4
 v4:=Tryz.zeroValue4
 t5:=underlying5
 a5:=Tryz.isAgg5
 z5:=Tryz.sizeOf5
 v5:=Tryz.zeroValue5
 t9:=underlying9
 a9:=Tryz.isAgg9
 z9:=Tryz.sizeOf9
 v9:=Tryz.zeroValue9
 t46:=underlying111
 a46:=Tryz.isAgg111
 z46:=Tryz.sizeOf111
 v46:=Tryz.zeroValue111
 t51:=underlying72
 a51:=Tryz.isAgg72
 z51:=Tryz.sizeOf72
 v51:=Tryz.zeroValue72
 t146:=underlying273
 a146:=Tryz.isAgg273
 z146:=Tryz.sizeOf273
 v146:=Tryz.zeroValue273
 g1:=by kernel_rfl}
def qc49:Go.Shelf.Ren:=⟨fun|146=>252|221=>261|268=>269|138=>270|143=>271|195=>275|197=>276|218=>277|219=>278|260=>280|217=>274|225=>268|224=>267|267=>281|266=>279|314=>282|n=>n,fun|9=>9|31=>157|3=>3|4=>4|0=>0|105=>267|21=>21|5=>5|46=>111|119=>269|139=>272|138=>271|146=>273|51=>72|n=>n,fun|1=>0|3=>1|4=>2|n=>n⟩
theorem qh9o:Go.Proofs.Lays.n146 prog qc49:={
 mixed:=by kernel_rfl
 f138:=func270.trans (congrArg some (by kernel_rfl))
 f143:=func271.trans (congrArg some (by kernel_rfl))
 f146:=func252.trans (congrArg some (by kernel_rfl))
 f195:=func275.trans (congrArg some (by kernel_rfl))
 f197:=func276.trans (congrArg some (by kernel_rfl))
 f217:=func274.trans (congrArg some (by kernel_rfl))
 f218:=func277.trans (congrArg some (by kernel_rfl))
 f219:=func278.trans (congrArg some (by kernel_rfl))
 f221:=func261.trans (congrArg some (by kernel_rfl))
 f224:=func267.trans (congrArg some (by kernel_rfl))
 f225:=func268.trans (congrArg some (by kernel_rfl))
 f260:=func280.trans (congrArg some (by kernel_rfl))
 f266:=func279.trans (congrArg some (by kernel_rfl))
 f267:=func281.trans (congrArg some (by kernel_rfl))
 f268:=func269.trans (congrArg some (by kernel_rfl))
 f314:=func282.trans (congrArg some (by kernel_rfl))
 t0:=underlying0
 a0:=Tryz.isAgg0
 z0:=Tryz.sizeOf0
 v0:=Tryz.zeroValue0
 t3:=underlying3
 a3:=Tryz.isAgg3
 z3:=Tryz.sizeOf3
 v3:=Tryz.zeroValue3
 t4:=underlying4
 a4:=Tryz.isAgg4
 z4:=Tryz.sizeOf4
 v4:=Tryz.zeroValue4
 t5:=underlying5
 a5:=Tryz.isAgg5
 z5:=Tryz.sizeOf5
 v5:=Tryz.zeroValue5
 t9:=underlying9
 a9:=Tryz.isAgg9
 z9:=Tryz.sizeOf9
 v9:=Tryz.zeroValue9
 t21:=underlying21
 a21:=Tryz.isAgg21
 z21:=Tryz.sizeOf21
 v21:=Tryz.zeroValue21
 t31:=underlying157
 a31:=Tryz.isAgg157
 z31:=Tryz.sizeOf157
 v31:=Tryz.zeroValue157
 t46:=underlying111
 a46:=Tryz.isAgg111
 z46:=Tryz.sizeOf111
 v46:=Tryz.zeroValue111
 t51:=underlying72
 a51:=Tryz.isAgg72
 z51:=Tryz.sizeOf72
 v51:=Tryz.zeroValue72
 t105:=underlying267
 a105:=Tryz.isAgg267
 z105:=Tryz.sizeOf267
 v105:=Tryz.zeroValue267
 t119:=underlying269
 a119:=Tryz.isAgg269
 z119:=Tryz.sizeOf269
 t138:=underlying271
 a138:=Tryz.isAgg271
 z138:=Tryz.sizeOf271
 v138:=Tryz.zeroValue271
 t139:=underlying272
 a139:=Tryz.isAgg272
 z139:=Tryz.sizeOf272
 v139:=Tryz.zeroValue272
 t146:=underlying273
 a146:=Tryz.isAgg273
 z146:=Tryz.sizeOf273
 v146:=Tryz.zeroValue273
 g1:=by kernel_rfl
 g3:=by kernel_rfl
 g4:=by kernel_rfl}
end Go.Proofs.YtombgnfedafkjaaGreatDoor
namespace Go.Proofs.YtombgnfedafkjaaGreatDoor
open Proofs.Tryz
open Go.RowKit Go.Shelf
theorem q4j6(s:ByteArray)(w:World)(hs:s.size<4000000000) :
 Calls prog 252 #[.string s,.string ⟨#[47]⟩] w fun e w'=>e=.returned (.slice (some ⟨w.heap.size,0,none⟩) (lvls s.data.toList).length (lvls s.data.toList).length)/\w'=w.alloc (.cells (strs (lvls s.data.toList)).toArray 9):=by
 have hle:=Lib.countB_le ⟨#[47]⟩ (by decide) s.size s (Nat.le_refl _);have hlen:=Lib.splitB_all ⟨#[47]⟩ (by decide) 0 _ s rfl;have c:Calls prog 261 #[.string s,.string ⟨#[47]⟩,.int .i64 0,.int .i64 (-1)] w fun e w'=>
  e=.returned (.slice (some ⟨w.heap.size,0,none⟩) (Lib.splitB ⟨#[47]⟩ 0 (Lib.countB s ⟨#[47]⟩+1-1) s).length (Lib.countB s ⟨#[47]⟩+1))/\w'=w.alloc (.cells (Lib.cellsOf (Lib.splitB ⟨#[47]⟩ 0 (Lib.countB s ⟨#[47]⟩+1-1) s) (Lib.countB s ⟨#[47]⟩+1)) 9):=
  Any.strings_genSplit_core {qh9o with} (by kernel_rfl) s ⟨#[47]⟩ 0 (-1) (Lib.countB s ⟨#[47]⟩+1) w (by omega) (by decide) (by decide)
   (fun x c hx=>(Any.strings_Index_one {qh9o with} x 47 _).mono fun e w' ⟨he,hw⟩=>⟨by
    rw[he]
    have:Lib.indexByte x.data.toList 47=Lib.indexB x ⟨#[47]⟩:=by
     show _=Lib.index x.data.toList [47];rcases qfnz x.data.toList with h|⟨a,b,h,h2⟩
     ·rw[q2df h,qq5q h]
     ·rw[h,q1pq a b h2,qhn0 a b h2]
    rw[this],hw⟩)
   ((
    Any.strings_Count_one {qh9o with} s 47 w).mono fun e w' ⟨he,hw⟩=>⟨by
    rw[he];show _=Ending.returned (Value.int .i64 ((Lib.count s.data.toList [47]:Nat):Int));rw[Lib.count_one]
    rfl,hw⟩) (by decide) (by decide) (by rw[if_pos (by decide)];omega)
 rw[Nat.add_sub_cancel,hlen,q2mb] at c;have e2:Lib.cellsOf (Lib.splitB ⟨#[47]⟩ 0 (Lib.countB s ⟨#[47]⟩) s) (lvls s.data.toList).length=(strs (lvls s.data.toList)).toArray:=by
  rw[<-q2mb,<-hlen,Lib.cellsOf_full,<-qb79,strs,List.map_map]
  rfl
 rw[e2] at c;have c:=Lib.hid c;clear hle hlen e2;go_in;go_wp2_with fail;refine(c.out).mono ?_;rintro e w' ⟨rfl,rfl⟩;go_wp2;go_ret;exact⟨rfl,rfl⟩
theorem qi28(s:ByteArray)(w:World)(hs:s.size<4000000000) :
 Calls prog 228 #[.string s] w fun e w'=>e=.returned (.slice (some ⟨w.heap.size,0,none⟩) (lvls s.data.toList).length (lvls s.data.toList).length)/\w'=w.alloc (.cells (strs (lvls s.data.toList)).toArray 9):=by
 have c:=Lib.hid (q4j6 s w hs);go_in;go_wp2_with fail;refine(c.out).mono ?_;rintro e w' ⟨rfl,rfl⟩;go_wp2;go_ret;exact⟨rfl,rfl⟩
end Go.Proofs.YtombgnfedafkjaaGreatDoor
