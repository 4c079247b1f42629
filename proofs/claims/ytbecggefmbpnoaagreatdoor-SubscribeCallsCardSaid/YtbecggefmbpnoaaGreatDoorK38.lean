/- The library's functions on strings lie in this program as the library's contracts ask: strings.Split, stringslite.Index. No condition. -/
import Derived.Shelf.Strings.SplitShaped
import Derived.Test.YtbecggefmbpnoaaGreatDoorK33
import Derived.Test.YtbecggefmbpnoaaGreatDoorK25
import Derived.Test.YtbecggefmbpnoaaGreatDoorK37
import Derived.Test.YtbecggefmbpnoaaGreatDoorK13
import Derived.Test.YtbecggefmbpnoaaGreatDoorK15
set_option maxHeartbeats 1000000
namespace Go.Proofs.YtbecggefmbpnoaaGreatDoor
open Go.Shelf
def qrma:Go.Shelf.Ren:=⟨fun | 219=>235 | 217=>242 | 225=>240 | 224=>239 | 267=>243 | 266=>244 | 314=>245 | n=>n,fun | 9=>9 | 3=>3 | 4=>4 | 5=>5 | 46=>119 | 146=>241 | 51=>79 | n=>n,fun | 1=>0 | n=>n⟩
theorem qcnx:Go.Proofs.Lays.n219 Tryz.prog qrma:={
 mixed:=by kernel_rfl
 f217:=Tryz.func242.trans (congrArg some (by kernel_rfl))
 f219:=Tryz.func235.trans (congrArg some (by kernel_rfl))
 f224:=Tryz.func239.trans (congrArg some (by kernel_rfl))
 f225:=Tryz.func240.trans (congrArg some (by kernel_rfl))
 f266:=Tryz.func244.trans (congrArg some (by kernel_rfl))
 f267:=Tryz.func243.trans (congrArg some (by kernel_rfl))
 f314:=Tryz.func245.trans (congrArg some (by kernel_rfl))
 t3:=Tryz.underlying3
 a3:=Tryz.isAgg3
 z3:=Tryz.sizeOf3
 v3:=Tryz.zeroValue3
 t4:=Tryz.underlying4
 a4:=Tryz.isAgg4
 z4:=Tryz.sizeOf4
 v4:=Tryz.zeroValue4
 t5:=Tryz.underlying5
 a5:=Tryz.isAgg5
 z5:=Tryz.sizeOf5
 v5:=Tryz.zeroValue5
 t9:=Tryz.underlying9
 a9:=Tryz.isAgg9
 z9:=Tryz.sizeOf9
 v9:=Tryz.zeroValue9
 t46:=Tryz.underlying119
 a46:=Tryz.isAgg119
 z46:=Tryz.sizeOf119
 v46:=Tryz.zeroValue119
 t51:=Tryz.underlying79
 a51:=Tryz.isAgg79
 z51:=Tryz.sizeOf79
 v51:=Tryz.zeroValue79
 t146:=Tryz.underlying241
 a146:=Tryz.isAgg241
 z146:=Tryz.sizeOf241
 v146:=Tryz.zeroValue241
 g1:=by kernel_rfl}
def qc49:Go.Shelf.Ren:=⟨fun | 146=>165 | 221=>193 | 268=>220 | 138=>221 | 143=>222 | 195=>232 | 197=>233 | 218=>234 | 219=>235 | 260=>241 | 217=>242 | 225=>240 | 224=>239 | 267=>243 | 266=>244 | 314=>245 | n=>n,fun | 9=>9 | 31=>52 | 3=>3 | 4=>4 | 0=>0 | 105=>232 | 21=>21 | 5=>5 | 46=>119 | 119=>237 | 139=>240 | 138=>239 | 146=>241 | 51=>79 | n=>n,fun | 1=>0 | 3=>1 | 4=>2 | n=>n⟩
theorem qh9o:Go.Proofs.Lays.n146 Tryz.prog qc49:={
 mixed:=by kernel_rfl
 f138:=Tryz.func221.trans (congrArg some (by kernel_rfl))
 f143:=Tryz.func222.trans (congrArg some (by kernel_rfl))
 f146:=Tryz.func165.trans (congrArg some (by kernel_rfl))
 f195:=Tryz.func232.trans (congrArg some (by kernel_rfl))
 f197:=Tryz.func233.trans (congrArg some (by kernel_rfl))
 f217:=Tryz.func242.trans (congrArg some (by kernel_rfl))
 f218:=Tryz.func234.trans (congrArg some (by kernel_rfl))
 f219:=Tryz.func235.trans (congrArg some (by kernel_rfl))
 f221:=Tryz.func193.trans (congrArg some (by kernel_rfl))
 f224:=Tryz.func239.trans (congrArg some (by kernel_rfl))
 f225:=Tryz.func240.trans (congrArg some (by kernel_rfl))
 f260:=Tryz.func241.trans (congrArg some (by kernel_rfl))
 f266:=Tryz.func244.trans (congrArg some (by kernel_rfl))
 f267:=Tryz.func243.trans (congrArg some (by kernel_rfl))
 f268:=Tryz.func220.trans (congrArg some (by kernel_rfl))
 f314:=Tryz.func245.trans (congrArg some (by kernel_rfl))
 t0:=Tryz.underlying0
 a0:=Tryz.isAgg0
 z0:=Tryz.sizeOf0
 v0:=Tryz.zeroValue0
 t3:=Tryz.underlying3
 a3:=Tryz.isAgg3
 z3:=Tryz.sizeOf3
 v3:=Tryz.zeroValue3
 t4:=Tryz.underlying4
 a4:=Tryz.isAgg4
 z4:=Tryz.sizeOf4
 v4:=Tryz.zeroValue4
 t5:=Tryz.underlying5
 a5:=Tryz.isAgg5
 z5:=Tryz.sizeOf5
 v5:=Tryz.zeroValue5
 t9:=Tryz.underlying9
 a9:=Tryz.isAgg9
 z9:=Tryz.sizeOf9
 v9:=Tryz.zeroValue9
 t21:=Tryz.underlying21
 a21:=Tryz.isAgg21
 z21:=Tryz.sizeOf21
 v21:=Tryz.zeroValue21
 t31:=Tryz.underlying52
 a31:=Tryz.isAgg52
 z31:=Tryz.sizeOf52
 v31:=Tryz.zeroValue52
 t46:=Tryz.underlying119
 a46:=Tryz.isAgg119
 z46:=Tryz.sizeOf119
 v46:=Tryz.zeroValue119
 t51:=Tryz.underlying79
 a51:=Tryz.isAgg79
 z51:=Tryz.sizeOf79
 v51:=Tryz.zeroValue79
 t105:=Tryz.underlying232
 a105:=Tryz.isAgg232
 z105:=Tryz.sizeOf232
 v105:=Tryz.zeroValue232
 t119:=Tryz.underlying237
 a119:=Tryz.isAgg237
 z119:=Tryz.sizeOf237
 t138:=Tryz.underlying239
 a138:=Tryz.isAgg239
 z138:=Tryz.sizeOf239
 v138:=Tryz.zeroValue239
 t139:=Tryz.underlying240
 a139:=Tryz.isAgg240
 z139:=Tryz.sizeOf240
 v139:=Tryz.zeroValue240
 t146:=Tryz.underlying241
 a146:=Tryz.isAgg241
 z146:=Tryz.sizeOf241
 v146:=Tryz.zeroValue241
 g1:=by kernel_rfl
 g3:=by kernel_rfl
 g4:=by kernel_rfl}
end Go.Proofs.YtbecggefmbpnoaaGreatDoor
namespace Go.Proofs.YtbecggefmbpnoaaGreatDoor
open Go.RowKit Go.Shelf
theorem q4j6(s:ByteArray)(w:World)(hs:s.size < 4000000000) :
 Calls Tryz.prog 165 #[.string s,.string ⟨#[47]⟩] w fun e w'=>
  e = .returned (.slice (some ⟨w.heap.size,0,none⟩) (lvls s.data.toList).length (lvls s.data.toList).length)∧w'=w.alloc (.cells (strs (lvls s.data.toList)).toArray 9):=by
 have hle:=Lib.countB_le ⟨#[47]⟩ (by decide) s.size s (Nat.le_refl _)
 have hlen:=Lib.splitB_all ⟨#[47]⟩ (by decide) 0 _ s rfl
 have c:Calls Tryz.prog 193 #[.string s,.string ⟨#[47]⟩,.int .i64 0,.int .i64 (-1)] w fun e w'=>
  e = .returned (.slice (some ⟨w.heap.size,0,none⟩) (Lib.splitB ⟨#[47]⟩ 0 (Lib.countB s ⟨#[47]⟩+1 - 1) s).length (Lib.countB s ⟨#[47]⟩+1))∧w'=w.alloc (.cells (Lib.cellsOf (Lib.splitB ⟨#[47]⟩ 0 (Lib.countB s ⟨#[47]⟩+1 - 1) s) (Lib.countB s ⟨#[47]⟩+1)) 9):=
  Any.strings_genSplit_core {qh9o with} (by kernel_rfl) s ⟨#[47]⟩ 0 (-1) (Lib.countB s ⟨#[47]⟩+1) w (by omega) (by decide) (by decide)
   (fun x c hx=>(Any.strings_Index_one {qh9o with} x 47 _).mono fun e w' ⟨he,hw⟩=>⟨by
    rw[he]
    have:Lib.indexByte x.data.toList 47=Lib.indexB x ⟨#[47]⟩:=by
     show _=Lib.index x.data.toList [47]
     rcases qfnz x.data.toList with h | ⟨a,b,h,h2⟩
     ·rw[q2df h,qq5q h]
     ·rw[h,q1pq a b h2,qhn0 a b h2]
    rw[this],hw⟩)
   ((
    Any.strings_Count_one {qh9o with} s 47 w).mono fun e w' ⟨he,hw⟩=>⟨by
    rw[he]
    show _=Ending.returned (Value.int .i64 ((Lib.count s.data.toList [47]:Nat):Int))
    rw[Lib.count_one]
    rfl,hw⟩) (by decide) (by decide) (by rw[if_pos (by decide)];omega)
 rw[Nat.add_sub_cancel,hlen,q2mb] at c
 have e2:Lib.cellsOf (Lib.splitB ⟨#[47]⟩ 0 (Lib.countB s ⟨#[47]⟩) s) (lvls s.data.toList).length=(strs (lvls s.data.toList)).toArray:=by
  rw[←q2mb,←hlen,Lib.cellsOf_full,←qb79,strs,List.map_map]
  rfl
 rw[e2] at c
 have c:=Lib.hid c
 clear hle hlen e2
 go_enter Tryz.func165,Tryz.ntmps165
 go_wp2_with fail
 refine(c.out).mono ?_
 rintro e w' ⟨rfl,rfl⟩
 go_wp2_with fail
 go_ret
 exact⟨rfl,rfl⟩
theorem qi28(s:ByteArray)(w:World)(hs:s.size < 4000000000) :
 Calls Tryz.prog 133 #[.string s] w fun e w'=>
  e = .returned (.slice (some ⟨w.heap.size,0,none⟩) (lvls s.data.toList).length (lvls s.data.toList).length)∧w'=w.alloc (.cells (strs (lvls s.data.toList)).toArray 9):=by
 have c:=Lib.hid (q4j6 s w hs)
 go_enter Tryz.func133,Tryz.ntmps133
 go_wp2_with fail
 refine(c.out).mono ?_
 rintro e w' ⟨rfl,rfl⟩
 go_wp2_with fail
 go_ret
 exact⟨rfl,rfl⟩
end Go.Proofs.YtbecggefmbpnoaaGreatDoor
