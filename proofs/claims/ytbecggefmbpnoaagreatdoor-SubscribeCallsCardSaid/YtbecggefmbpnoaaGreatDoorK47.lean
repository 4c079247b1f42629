/- The contracts of polyglotref05.value and body, at properties that are valid. Condition: as many as a list may have. -/
import Derived.Deep.RegionHeld3
import Derived.Deep.LoopGhost
import Derived.Deep.DeepCutAuto
import Derived.Laws.ResultCell
import Derived.Test.YtbecggefmbpnoaaGreatDoorK24
import Derived.Test.YtbecggefmbpnoaaGreatDoorK43
import Derived.Test.YtbecggefmbpnoaaGreatDoorK31
import Derived.Test.YtbecggefmbpnoaaGreatDoorK34
import Derived.Test.YtbecggefmbpnoaaGreatDoorK42
import Derived.Test.YtbecggefmbpnoaaGreatDoorK44
import Derived.Test.YtbecggefmbpnoaaGreatDoorK10
import Derived.Test.YtbecggefmbpnoaaGreatDoorK19
import Derived.Test.YtbecggefmbpnoaaGreatDoorK45
import Derived.Test.YtbecggefmbpnoaaGreatDoorK18
import Derived.Test.YtbecggefmbpnoaaGreatDoorK11
import Derived.Test.YtbecggefmbpnoaaGreatDoorK28
import Derived.Test.YtbecggefmbpnoaaGreatDoorK20
set_option maxRecDepth 100000
set_option maxHeartbeats 2000000
namespace Go.Proofs.YtbecggefmbpnoaaGreatDoor
open Go.RowKit
section
variable{id n:Int}{st sv:ByteArray}
theorem q0sc(LK:∀W,Calls Tryz.prog 171 #[.int .i64 id] W fun e w'=>∃A m x y,e = .returned (.agg #[.int .i64 1,.slice A m m,.int .u32 x,.int .u32 y])∧Below W.heap.size W w')(hw:IntKind.u64.wrap n=n){R:ByteArray}(PU:∀W,Calls Tryz.prog 54 #[.int .u64 n,.int .i64 1] W fun e w'=>e = .returned (.string R)∧Below W.heap.size W w')(w:World) :
 Calls Tryz.prog 169 #[.agg #[.int .i64 id,.int .u32 n,.string st,.string sv]] w fun e w'=>e = .returned (.string R)∧Below w.heap.size w w':=by
 have hb0:=heap_alloc_new w (.cells #[.int .i64 id,.int .u32 n,.string st,.string sv] 81)
 have hB0:Below w.heap.size w (w.alloc (.cells #[.int .i64 id,.int .u32 n,.string st,.string sv] 81)):=(Below.refl _ _).alloc (Nat.le_refl _) _
 have LK:=Lib.hid LK
 have PU:=Lib.hid PU
 have P0:=Lib.hid hb0
 have B0:=Lib.hid hB0
 have c0:=cell_of_row _ w.heap.size 0 _ _ _ hb0
 clear hb0 hB0
 go_enter Tryz.func169,Tryz.ntmps169
 go_wp2_with fail
 refine(LK.out _).mono ?_
 rintro e w1 ⟨A,m,x,y,rfl,hb⟩
 have P:=Lib.hid ((hb.block w.heap.size (by rw[World.size_alloc];omega)).trans P0.out)
 have B:=Lib.hid (B0.out.trans (hb.mono B0.out.size))
 have F0:=qkrp 1 A m m x y
 clear hb c0
 have c0:=cell_of_row _ w.heap.size 0 _ _ _ P.out
 have c1:=cell_of_row _ w.heap.size 1 _ _ _ P.out
 have c2:=cell_of_row _ w.heap.size 2 _ _ _ P.out
 have c3:=cell_of_row _ w.heap.size 3 _ _ _ P.out
 go_wp2_with fail
 refine(PU.out _).mono ?_
 rintro e w2 ⟨rfl,hb⟩
 have P:=Lib.hid ((hb.block w.heap.size (lt_of_block P.out)).trans P.out)
 have B:=Lib.hid (B.out.trans (hb.mono B.out.size))
 clear hb c0 c1 c2 c3
 have c0:=cell_of_row _ w.heap.size 0 _ _ _ P.out
 have c1:=cell_of_row _ w.heap.size 1 _ _ _ P.out
 have c2:=cell_of_row _ w.heap.size 2 _ _ _ P.out
 have c3:=cell_of_row _ w.heap.size 3 _ _ _ P.out
 go_wp2_with fail
 go_ret
 exact⟨rfl,B.out⟩
theorem qqo9(LK:∀W,Calls Tryz.prog 171 #[.int .i64 id] W fun e w'=>∃A m x y,e = .returned (.agg #[.int .i64 2,.slice A m m,.int .u32 x,.int .u32 y])∧Below W.heap.size W w')(hw:IntKind.u64.wrap n=n){R:ByteArray}(PU:∀W,Calls Tryz.prog 54 #[.int .u64 n,.int .i64 2] W fun e w'=>e = .returned (.string R)∧Below W.heap.size W w')(w:World) :
 Calls Tryz.prog 169 #[.agg #[.int .i64 id,.int .u32 n,.string st,.string sv]] w fun e w'=>e = .returned (.string R)∧Below w.heap.size w w':=by
 have hb0:=heap_alloc_new w (.cells #[.int .i64 id,.int .u32 n,.string st,.string sv] 81)
 have hB0:Below w.heap.size w (w.alloc (.cells #[.int .i64 id,.int .u32 n,.string st,.string sv] 81)):=(Below.refl _ _).alloc (Nat.le_refl _) _
 have LK:=Lib.hid LK
 have PU:=Lib.hid PU
 have P0:=Lib.hid hb0
 have B0:=Lib.hid hB0
 have c0:=cell_of_row _ w.heap.size 0 _ _ _ hb0
 clear hb0 hB0
 go_enter Tryz.func169,Tryz.ntmps169
 go_wp2_with fail
 refine(LK.out _).mono ?_
 rintro e w1 ⟨A,m,x,y,rfl,hb⟩
 have P:=Lib.hid ((hb.block w.heap.size (by rw[World.size_alloc];omega)).trans P0.out)
 have B:=Lib.hid (B0.out.trans (hb.mono B0.out.size))
 have F0:=qkrp 2 A m m x y
 clear hb c0
 have c0:=cell_of_row _ w.heap.size 0 _ _ _ P.out
 have c1:=cell_of_row _ w.heap.size 1 _ _ _ P.out
 have c2:=cell_of_row _ w.heap.size 2 _ _ _ P.out
 have c3:=cell_of_row _ w.heap.size 3 _ _ _ P.out
 go_wp2_with fail
 refine(PU.out _).mono ?_
 rintro e w2 ⟨rfl,hb⟩
 have P:=Lib.hid ((hb.block w.heap.size (lt_of_block P.out)).trans P.out)
 have B:=Lib.hid (B.out.trans (hb.mono B.out.size))
 clear hb c0 c1 c2 c3
 have c0:=cell_of_row _ w.heap.size 0 _ _ _ P.out
 have c1:=cell_of_row _ w.heap.size 1 _ _ _ P.out
 have c2:=cell_of_row _ w.heap.size 2 _ _ _ P.out
 have c3:=cell_of_row _ w.heap.size 3 _ _ _ P.out
 go_wp2_with fail
 go_ret
 exact⟨rfl,B.out⟩
theorem qwbv(LK:∀W,Calls Tryz.prog 171 #[.int .i64 id] W fun e w'=>∃A m x y,e = .returned (.agg #[.int .i64 3,.slice A m m,.int .u32 x,.int .u32 y])∧Below W.heap.size W w')(hw:IntKind.u64.wrap n=n){R:ByteArray}(PU:∀W,Calls Tryz.prog 54 #[.int .u64 n,.int .i64 4] W fun e w'=>e = .returned (.string R)∧Below W.heap.size W w')(w:World) :
 Calls Tryz.prog 169 #[.agg #[.int .i64 id,.int .u32 n,.string st,.string sv]] w fun e w'=>e = .returned (.string R)∧Below w.heap.size w w':=by
 have hb0:=heap_alloc_new w (.cells #[.int .i64 id,.int .u32 n,.string st,.string sv] 81)
 have hB0:Below w.heap.size w (w.alloc (.cells #[.int .i64 id,.int .u32 n,.string st,.string sv] 81)):=(Below.refl _ _).alloc (Nat.le_refl _) _
 have LK:=Lib.hid LK
 have PU:=Lib.hid PU
 have P0:=Lib.hid hb0
 have B0:=Lib.hid hB0
 have c0:=cell_of_row _ w.heap.size 0 _ _ _ hb0
 clear hb0 hB0
 go_enter Tryz.func169,Tryz.ntmps169
 go_wp2_with fail
 refine(LK.out _).mono ?_
 rintro e w1 ⟨A,m,x,y,rfl,hb⟩
 have P:=Lib.hid ((hb.block w.heap.size (by rw[World.size_alloc];omega)).trans P0.out)
 have B:=Lib.hid (B0.out.trans (hb.mono B0.out.size))
 have F0:=qkrp 3 A m m x y
 clear hb c0
 have c0:=cell_of_row _ w.heap.size 0 _ _ _ P.out
 have c1:=cell_of_row _ w.heap.size 1 _ _ _ P.out
 have c2:=cell_of_row _ w.heap.size 2 _ _ _ P.out
 have c3:=cell_of_row _ w.heap.size 3 _ _ _ P.out
 go_wp2_with fail
 refine(PU.out _).mono ?_
 rintro e w2 ⟨rfl,hb⟩
 have P:=Lib.hid ((hb.block w.heap.size (lt_of_block P.out)).trans P.out)
 have B:=Lib.hid (B.out.trans (hb.mono B.out.size))
 clear hb c0 c1 c2 c3
 have c0:=cell_of_row _ w.heap.size 0 _ _ _ P.out
 have c1:=cell_of_row _ w.heap.size 1 _ _ _ P.out
 have c2:=cell_of_row _ w.heap.size 2 _ _ _ P.out
 have c3:=cell_of_row _ w.heap.size 3 _ _ _ P.out
 go_wp2_with fail
 go_ret
 exact⟨rfl,B.out⟩
theorem qbt6(LK:∀W,Calls Tryz.prog 171 #[.int .i64 id] W fun e w'=>∃A m x y,e = .returned (.agg #[.int .i64 4,.slice A m m,.int .u32 x,.int .u32 y])∧Below W.heap.size W w')(hw:IntKind.i64.wrap n=n){R:ByteArray}{z:Int}(PU:∀W,Calls Tryz.prog 139 #[.int .i64 n] W fun e w'=>e = .returned (.tuple #[.string R,.int .i64 z])∧Below W.heap.size W w')(w:World) :
 Calls Tryz.prog 169 #[.agg #[.int .i64 id,.int .u32 n,.string st,.string sv]] w fun e w'=>e = .returned (.string R)∧Below w.heap.size w w':=by
 have hb0:=heap_alloc_new w (.cells #[.int .i64 id,.int .u32 n,.string st,.string sv] 81)
 have hB0:Below w.heap.size w (w.alloc (.cells #[.int .i64 id,.int .u32 n,.string st,.string sv] 81)):=(Below.refl _ _).alloc (Nat.le_refl _) _
 have LK:=Lib.hid LK
 have PU:=Lib.hid PU
 have P0:=Lib.hid hb0
 have B0:=Lib.hid hB0
 have c0:=cell_of_row _ w.heap.size 0 _ _ _ hb0
 clear hb0 hB0
 go_enter Tryz.func169,Tryz.ntmps169
 go_wp2_with fail
 refine(LK.out _).mono ?_
 rintro e w1 ⟨A,m,x,y,rfl,hb⟩
 have P:=Lib.hid ((hb.block w.heap.size (by rw[World.size_alloc];omega)).trans P0.out)
 have B:=Lib.hid (B0.out.trans (hb.mono B0.out.size))
 have F0:=qkrp 4 A m m x y
 clear hb c0
 have c0:=cell_of_row _ w.heap.size 0 _ _ _ P.out
 have c1:=cell_of_row _ w.heap.size 1 _ _ _ P.out
 have c2:=cell_of_row _ w.heap.size 2 _ _ _ P.out
 have c3:=cell_of_row _ w.heap.size 3 _ _ _ P.out
 go_wp2_with fail
 refine(PU.out _).mono ?_
 rintro e w2 ⟨rfl,hb⟩
 have P:=Lib.hid ((hb.block w.heap.size (lt_of_block P.out)).trans P.out)
 have B:=Lib.hid (B.out.trans (hb.mono B.out.size))
 clear hb c0 c1 c2 c3
 have c0:=cell_of_row _ w.heap.size 0 _ _ _ P.out
 have c1:=cell_of_row _ w.heap.size 1 _ _ _ P.out
 have c2:=cell_of_row _ w.heap.size 2 _ _ _ P.out
 have c3:=cell_of_row _ w.heap.size 3 _ _ _ P.out
 go_wp2_with fail
 go_ret
 exact⟨rfl,B.out⟩
theorem q9o4(LK:∀W,Calls Tryz.prog 171 #[.int .i64 id] W fun e w'=>∃A m x y,e = .returned (.agg #[.int .i64 5,.slice A m m,.int .u32 x,.int .u32 y])∧Below W.heap.size W w'){R:ByteArray}{z:Int}(BT:∀W,Calls Tryz.prog 198 #[.string st] W fun e w'=>e = .returned (.tuple #[.string R,.int .i64 z])∧Below W.heap.size W w')(w:World) :
 Calls Tryz.prog 169 #[.agg #[.int .i64 id,.int .u32 n,.string st,.string sv]] w fun e w'=>e = .returned (.string R)∧Below w.heap.size w w':=by
 have hb0:=heap_alloc_new w (.cells #[.int .i64 id,.int .u32 n,.string st,.string sv] 81)
 have hB0:Below w.heap.size w (w.alloc (.cells #[.int .i64 id,.int .u32 n,.string st,.string sv] 81)):=(Below.refl _ _).alloc (Nat.le_refl _) _
 have LK:=Lib.hid LK
 have BT:=Lib.hid BT
 have P0:=Lib.hid hb0
 have B0:=Lib.hid hB0
 have c0:=cell_of_row _ w.heap.size 0 _ _ _ hb0
 clear hb0 hB0
 go_enter Tryz.func169,Tryz.ntmps169
 go_wp2_with fail
 refine(LK.out _).mono ?_
 rintro e w1 ⟨A,m,x,y,rfl,hb⟩
 have P:=Lib.hid ((hb.block w.heap.size (by rw[World.size_alloc];omega)).trans P0.out)
 have B:=Lib.hid (B0.out.trans (hb.mono B0.out.size))
 have F0:=qkrp 5 A m m x y
 clear hb c0
 have c0:=cell_of_row _ w.heap.size 0 _ _ _ P.out
 have c1:=cell_of_row _ w.heap.size 1 _ _ _ P.out
 have c2:=cell_of_row _ w.heap.size 2 _ _ _ P.out
 have c3:=cell_of_row _ w.heap.size 3 _ _ _ P.out
 go_wp2_with fail
 refine(BT.out _).mono ?_
 rintro e w2 ⟨rfl,hb⟩
 have P:=Lib.hid ((hb.block w.heap.size (lt_of_block P.out)).trans P.out)
 have B:=Lib.hid (B.out.trans (hb.mono B.out.size))
 clear hb c0 c1 c2 c3
 have c0:=cell_of_row _ w.heap.size 0 _ _ _ P.out
 have c1:=cell_of_row _ w.heap.size 1 _ _ _ P.out
 have c2:=cell_of_row _ w.heap.size 2 _ _ _ P.out
 have c3:=cell_of_row _ w.heap.size 3 _ _ _ P.out
 go_wp2_with fail
 refine(LK.out _).mono ?_
 rintro e w3 ⟨A,m,x,y,rfl,hb⟩
 have F0:=qkrp 5 A m m x y
 have P:=Lib.hid ((hb.block w.heap.size (lt_of_block P.out)).trans P.out)
 have B:=Lib.hid (B.out.trans (hb.mono B.out.size))
 clear hb c0 c1 c2 c3
 have c0:=cell_of_row _ w.heap.size 0 _ _ _ P.out
 have c1:=cell_of_row _ w.heap.size 1 _ _ _ P.out
 have c2:=cell_of_row _ w.heap.size 2 _ _ _ P.out
 have c3:=cell_of_row _ w.heap.size 3 _ _ _ P.out
 go_wp2_with fail
 go_ret
 exact⟨rfl,B.out⟩
theorem qfll(LK:∀W,Calls Tryz.prog 171 #[.int .i64 id] W fun e w'=>∃A m x y,e = .returned (.agg #[.int .i64 6,.slice A m m,.int .u32 x,.int .u32 y])∧Below W.heap.size W w'){R:ByteArray}{z:Int}(BT:∀W,Calls Tryz.prog 198 #[.string st] W fun e w'=>e = .returned (.tuple #[.string R,.int .i64 z])∧Below W.heap.size W w')(w:World) :
 Calls Tryz.prog 169 #[.agg #[.int .i64 id,.int .u32 n,.string st,.string sv]] w fun e w'=>e = .returned (.string R)∧Below w.heap.size w w':=by
 have hb0:=heap_alloc_new w (.cells #[.int .i64 id,.int .u32 n,.string st,.string sv] 81)
 have hB0:Below w.heap.size w (w.alloc (.cells #[.int .i64 id,.int .u32 n,.string st,.string sv] 81)):=(Below.refl _ _).alloc (Nat.le_refl _) _
 have LK:=Lib.hid LK
 have BT:=Lib.hid BT
 have P0:=Lib.hid hb0
 have B0:=Lib.hid hB0
 have c0:=cell_of_row _ w.heap.size 0 _ _ _ hb0
 clear hb0 hB0
 go_enter Tryz.func169,Tryz.ntmps169
 go_wp2_with fail
 refine(LK.out _).mono ?_
 rintro e w1 ⟨A,m,x,y,rfl,hb⟩
 have P:=Lib.hid ((hb.block w.heap.size (by rw[World.size_alloc];omega)).trans P0.out)
 have B:=Lib.hid (B0.out.trans (hb.mono B0.out.size))
 have F0:=qkrp 6 A m m x y
 clear hb c0
 have c0:=cell_of_row _ w.heap.size 0 _ _ _ P.out
 have c1:=cell_of_row _ w.heap.size 1 _ _ _ P.out
 have c2:=cell_of_row _ w.heap.size 2 _ _ _ P.out
 have c3:=cell_of_row _ w.heap.size 3 _ _ _ P.out
 go_wp2_with fail
 refine(BT.out _).mono ?_
 rintro e w2 ⟨rfl,hb⟩
 have P:=Lib.hid ((hb.block w.heap.size (lt_of_block P.out)).trans P.out)
 have B:=Lib.hid (B.out.trans (hb.mono B.out.size))
 clear hb c0 c1 c2 c3
 have c0:=cell_of_row _ w.heap.size 0 _ _ _ P.out
 have c1:=cell_of_row _ w.heap.size 1 _ _ _ P.out
 have c2:=cell_of_row _ w.heap.size 2 _ _ _ P.out
 have c3:=cell_of_row _ w.heap.size 3 _ _ _ P.out
 go_wp2_with fail
 refine(LK.out _).mono ?_
 rintro e w3 ⟨A,m,x,y,rfl,hb⟩
 have F0:=qkrp 6 A m m x y
 have P:=Lib.hid ((hb.block w.heap.size (lt_of_block P.out)).trans P.out)
 have B:=Lib.hid (B.out.trans (hb.mono B.out.size))
 clear hb c0 c1 c2 c3
 have c0:=cell_of_row _ w.heap.size 0 _ _ _ P.out
 have c1:=cell_of_row _ w.heap.size 1 _ _ _ P.out
 have c2:=cell_of_row _ w.heap.size 2 _ _ _ P.out
 have c3:=cell_of_row _ w.heap.size 3 _ _ _ P.out
 go_wp2_with fail
 go_ret
 exact⟨rfl,B.out⟩
theorem q5gg(LK:∀W,Calls Tryz.prog 171 #[.int .i64 id] W fun e w'=>∃A m x y,e = .returned (.agg #[.int .i64 7,.slice A m m,.int .u32 x,.int .u32 y])∧Below W.heap.size W w'){R:ByteArray}{z:Int}(BT:∀W,Calls Tryz.prog 198 #[.string st] W fun e w'=>e = .returned (.tuple #[.string R,.int .i64 z])∧Below W.heap.size W w'){R2:ByteArray}{z2:Int}(BV:∀W,Calls Tryz.prog 198 #[.string sv] W fun e w'=>e = .returned (.tuple #[.string R2,.int .i64 z2])∧Below W.heap.size W w')(hnl:¬9223372036854775807 < R.size+R2.size)(w:World) :
 Calls Tryz.prog 169 #[.agg #[.int .i64 id,.int .u32 n,.string st,.string sv]] w fun e w'=>e = .returned (.string (R++R2))∧Below w.heap.size w w':=by
 have hb0:=heap_alloc_new w (.cells #[.int .i64 id,.int .u32 n,.string st,.string sv] 81)
 have hB0:Below w.heap.size w (w.alloc (.cells #[.int .i64 id,.int .u32 n,.string st,.string sv] 81)):=(Below.refl _ _).alloc (Nat.le_refl _) _
 have LK:=Lib.hid LK
 have BT:=Lib.hid BT
 have BV:=Lib.hid BV
 have P0:=Lib.hid hb0
 have B0:=Lib.hid hB0
 have c0:=cell_of_row _ w.heap.size 0 _ _ _ hb0
 clear hb0 hB0
 go_enter Tryz.func169,Tryz.ntmps169
 go_wp2_with fail
 refine(LK.out _).mono ?_
 rintro e w1 ⟨A,m,x,y,rfl,hb⟩
 have P:=Lib.hid ((hb.block w.heap.size (by rw[World.size_alloc];omega)).trans P0.out)
 have B:=Lib.hid (B0.out.trans (hb.mono B0.out.size))
 have F0:=qkrp 7 A m m x y
 clear hb c0
 have c0:=cell_of_row _ w.heap.size 0 _ _ _ P.out
 have c1:=cell_of_row _ w.heap.size 1 _ _ _ P.out
 have c2:=cell_of_row _ w.heap.size 2 _ _ _ P.out
 have c3:=cell_of_row _ w.heap.size 3 _ _ _ P.out
 go_wp2_with fail
 refine(BT.out _).mono ?_
 rintro e w2 ⟨rfl,hb⟩
 have P:=Lib.hid ((hb.block w.heap.size (lt_of_block P.out)).trans P.out)
 have B:=Lib.hid (B.out.trans (hb.mono B.out.size))
 clear hb c0 c1 c2 c3
 have c0:=cell_of_row _ w.heap.size 0 _ _ _ P.out
 have c1:=cell_of_row _ w.heap.size 1 _ _ _ P.out
 have c2:=cell_of_row _ w.heap.size 2 _ _ _ P.out
 have c3:=cell_of_row _ w.heap.size 3 _ _ _ P.out
 go_wp2_with fail
 refine(LK.out _).mono ?_
 rintro e w3 ⟨A,m,x,y,rfl,hb⟩
 have F0:=qkrp 7 A m m x y
 have P:=Lib.hid ((hb.block w.heap.size (lt_of_block P.out)).trans P.out)
 have B:=Lib.hid (B.out.trans (hb.mono B.out.size))
 clear hb c0 c1 c2 c3
 have c0:=cell_of_row _ w.heap.size 0 _ _ _ P.out
 have c1:=cell_of_row _ w.heap.size 1 _ _ _ P.out
 have c2:=cell_of_row _ w.heap.size 2 _ _ _ P.out
 have c3:=cell_of_row _ w.heap.size 3 _ _ _ P.out
 go_wp2_with fail
 refine(BV.out _).mono ?_
 rintro e w4 ⟨rfl,hb⟩
 have P:=Lib.hid ((hb.block w.heap.size (lt_of_block P.out)).trans P.out)
 have B:=Lib.hid (B.out.trans (hb.mono B.out.size))
 clear hb c0 c1 c2 c3
 have c0:=cell_of_row _ w.heap.size 0 _ _ _ P.out
 have c1:=cell_of_row _ w.heap.size 1 _ _ _ P.out
 have c2:=cell_of_row _ w.heap.size 2 _ _ _ P.out
 have c3:=cell_of_row _ w.heap.size 3 _ _ _ P.out
 go_wp2_with fail
 go_ret
 exact⟨rfl,B.out⟩
end
theorem qq3r{kind:Int}(p:Pr)(ck:qr4y kind p=0)(w:World) :
 Calls Tryz.prog 169 #[qbhk p] w fun e w'=>e = .returned (.string (bs (qgdb p)))∧Below w.heap.size w w':=by
 obtain⟨hm,h4,h5⟩:=qo1o ck
 obtain⟨r1,r2,f1,f2,f3,f4,_⟩:=qznl hm
 have LK:=fun W=>(q43i p.id W).mono (R':=fun e w'=>∃A m x y,e = .returned (.agg #[.int .i64 ((qwgc p.id:Nat):Int),.slice A m m,.int .u32 x,.int .u32 y])∧Below W.heap.size W w') (fun e w' ⟨A,h1,h2,_⟩=>⟨A,_,_,_,h1,h2⟩)
 have hh:qwgc p.id=1∨qwgc p.id=2∨qwgc p.id=3∨qwgc p.id=4∨qwgc p.id=5∨qwgc p.id=6∨qwgc p.id=7:=by omega
 unfold qgdb qbhk
 rcases hh with s | s | s | s | s | s | s
 ·rw[s] at LK
  rw[if_pos s]
  obtain⟨_,_,_,hn⟩:=h4 (by omega)
  have:=f1 s
  exact q0sc LK (by simp only[IntKind.wrap_u64];omega) (fun W=>qeva p.n 1 W (by omega) (by decide) (by decide)) w
 ·rw[s] at LK
  rw[if_neg (by omega),if_pos s]
  obtain⟨_,_,_,hn⟩:=h4 (by omega)
  have:=f2 s
  exact qqo9 LK (by simp only[IntKind.wrap_u64];omega) (fun W=>qeva p.n 2 W (by omega) (by decide) (by decide)) w
 ·rw[s] at LK
  rw[if_neg (by omega),if_neg (by omega),if_pos s]
  obtain⟨_,_,_,hn⟩:=h4 (by omega)
  have:=f3 s
  exact qwbv LK (by simp only[IntKind.wrap_u64];omega) (fun W=>qeva p.n 4 W (by omega) (by decide) (by decide)) w
 ·rw[s] at LK
  rw[if_neg (by omega),if_neg (by omega),if_neg (by omega),if_pos s]
  obtain⟨_,_,_,hn⟩:=h4 (by omega)
  have:=f4 s
  exact qbt6 LK (by simp only[IntKind.wrap_i64];omega) (fun W=>qwha p.n W (by omega)) w
 all_goals
  rw[if_neg (by omega),if_neg (by omega),if_neg (by omega),if_neg (by omega)]
  obtain⟨_,hv7,hv6,hvt⟩:=h5 (by omega)
  rw[s] at LK
 ·rw[if_neg (by omega)]
  obtain⟨v1,v2⟩:=hvt (by omega)
  have l1:=((qbv6 _).1 v1).1
  exact q9o4 LK (fun W=>q5pn (bs p.text) W (by rw[q5zk];exact l1)) w
 ·rw[if_neg (by omega)]
  have l1:=hv6 s
  exact qfll LK (fun W=>q5pn (bs p.text) W (by rw[q5zk];exact l1)) w
 ·rw[if_pos s]
  obtain⟨v1,v2⟩:=hvt (by omega)
  have l1:=((qbv6 _).1 v1).1
  have l2:=((qbv6 _).1 v2).1
  have:=q5gg (st:=bs p.text) (sv:=bs p.value) (n:=p.n) LK (fun W=>q5pn (bs p.text) W (by rw[q5zk];exact l1)) (fun W=>q5pn (bs p.value) W (by rw[q5zk];exact l2)) (by rw[q5zk,q5zk,qnp6,qnp6,qkd1,qkd1];omega) w
  rw[qyv7] at this
  exact this
def RsAt(W:World)(cb:Nat)(s:ByteArray)(x:Cs):Prop:=∃i,i≤s.size∧Ref W cb s i (x.e:Nat)∧s.data.toList.drop i=x.r
theorem qo1z(s:ByteArray)(i:Nat)(hi:i≤s.size):s.extract i s.size=bs (s.data.toList.drop i):=by
 have h:=q31q s i (s.size - i)
 rw[Nat.add_sub_cancel' hi] at h
 rw[h,List.take_of_length_le (by rw[List.length_drop,←q4ad];exact Nat.le_refl _)]
section
variable{w W W':World}{cb:Nat}{s:ByteArray}{x:Cs}
theorem RsAt.lt(h:RsAt W cb s x):cb < W.heap.size:=by obtain⟨i,_,hc,_⟩:=h;exact hc.lt
theorem RsAt.of_block(h:RsAt W cb s x)(hb:W'.heap[cb]? = W.heap[cb]?):RsAt W' cb s x:=by obtain⟨i,hi,hc,hr⟩:=h;exact⟨i,hi,hc.of_block hb,hr⟩
theorem RsAt.below(h:RsAt W cb s x)(hb:Below W.heap.size W W'):RsAt W' cb s x:=h.of_block (hb.block cb h.lt)
theorem qnev{i:Nat}(hi:i≤s.size)(hr:s.data.toList.drop i=x.r)(n:Nat):tk s i (x.e:Nat) n=bs (x.take n).1∧te s i (x.e:Nat) n=((x.take n).2.e:Nat)∧s.data.toList.drop (ti s i (x.e:Nat) n)=(x.take n).2.r:=by
 have hl:x.r.length=s.size - i:=by rw[←hr,List.length_drop,←q4ad]
 unfold Cs.take
 rcases qqbf s i (x.e:Nat) n hi with ⟨h,h1,h2,h3⟩ | ⟨h,hz,h1,h2,h3⟩ | ⟨h,hz,h1,h2,h3⟩ | ⟨m,h,hm,hz,h1,h2,h3⟩<;>rw[h1,h2,h3]
 ·have he:x.e≠0:=by intro e;rw[e] at h;cases h
  rw[if_pos he]
  exact⟨rfl,rfl,hr⟩
 ·omega
 ·rw[if_neg (by omega),if_pos (by omega)]
  exact⟨rfl,rfl,hr⟩
 ·obtain rfl:m=n:=by omega
  rw[if_neg (by omega),if_neg (by omega)]
  exact⟨by rw[q31q,hr],rfl,by rw[←hr,List.drop_drop]⟩
theorem qyb5(n:Nat)(hn8:n≤8)(hm:s.size≤9223372036854775807)(h:RsAt w cb s x) :
 Calls Tryz.prog 60 #[.pointer (some ⟨cb,0,none⟩),.int .i64 n] w fun e w'=>e = .returned (.int .u64 ((x.num n).1:Nat))∧RsAt w' cb s (x.num n).2∧w.grownBy w' (some cb):=by
 obtain⟨i,hi,hc,hr⟩:=h
 obtain⟨a1,a2,a3⟩:=qnev (x:=x) hi hr n
 have hle:(x.take n).1.length≤n:=by
  unfold Cs.take
  split
  ·exact Nat.zero_le _
  ·split
   ·exact Nat.zero_le _
   ·simp;omega
 have hN:qf3l (tk s i (x.e:Nat) n)=(x.num n).1:=by
  rw[a1]
  show num ((bs (x.take n).1).data.toList.drop ((bs (x.take n).1).size - 8))=num (x.take n).1
  rw[q5zk,show(x.take n).1.length - 8=0 by omega]
  rfl
 refine(quje (n:Int) hc hi hm).mono fun e w' ⟨h1,h2,h3⟩=>⟨by rw[h1,hN],⟨_,qqc6 s i _ _ hi,by rw[show((x.num n).2.e:Nat)=(x.take n).2.e from rfl,←a2];exact h2,a3⟩,h3⟩
theorem qw3h(f:Nat)(h:RsAt w cb s x) :
 Calls Tryz.prog 98 #[.pointer (some ⟨cb,0,none⟩),.int .i64 f] w fun e w'=>e = .returned (.tuple #[])∧RsAt w' cb s (x.fail f)∧w.grownBy w' (some cb):=by
 obtain⟨i,hi,hc,hr⟩:=h
 refine(qi5e (f:Int) hc).mono fun e w' ⟨h1,h2,h3⟩=>⟨h1,?_,h3⟩
 unfold Cs.fail
 by_cases he:x.e=0
 ·rw[if_neg (by simpa using he)]
  rw[show fe ((x.e:Nat):Int) f=(f:Int) by rw[he];rfl] at h2
  exact⟨i,hi,h2,hr⟩
 ·rw[if_pos he]
  have hb:(((x.e:Nat):Int)==0)=false:=by simp;omega
  rw[show fe ((x.e:Nat):Int) f=((x.e:Nat):Int) by unfold fe;rw[hb];rfl] at h2
  exact⟨i,hi,h2,hr⟩
theorem q5u4(hm:s.size≤9223372036854775807)(h:RsAt w cb s x) :
 Calls Tryz.prog 62 #[.pointer (some ⟨cb,0,none⟩)] w fun e w'=>e = .returned (.int .i64 (x.r.length:Nat))∧RsAt w' cb s x∧w.grownBy w' (some cb):=by
 obtain⟨i,hi,hc,hr⟩:=h
 have hl:x.r.length=s.size - i:=by rw[←hr,List.length_drop,←q4ad]
 rw[hl]
 refine(qr1r hc hi hm).mono fun e w' ⟨h1,n,h2⟩=>⟨h1,h2▸⟨i,hi,hc.draws n,hr⟩,h2▸qgju (n:=n) (World.grownBy.refl _ _)⟩
end
section
variable{w W W':World}{cb:Nat}{s:ByteArray}{x:Cs}
theorem qi43(hm:s.size≤70000)(h:RsAt w cb s x) :
 Calls Tryz.prog 97 #[.pointer (some ⟨cb,0,none⟩)] w fun e w'=>e = .returned (.string (bs x.text.1))∧RsAt w' cb s x.text.2∧w.grownBy w' (some cb):=by
 obtain⟨i,hi,hc,hr⟩:=h
 have hl:x.r.length=s.size - i:=by rw[←hr,List.length_drop,←q4ad]
 unfold Cs.text
 by_cases he:x.e=0
 ·rw[if_neg (by simpa using he)]
  rw[he] at hc
  have RS:=qv27 hc hi
  rw[qo1z s i hi,hr] at RS
  have RD:=fun W=>qgci (bs x.r) W (by rw[q5zk];omega)
  rw[qkd1] at RD
  have hz:(rdT x.r).2.1≤x.r.length:=(qslt x.r).1
  obtain⟨z,hzz⟩:∃z,(rdT x.r).2.1=z:=⟨_,rfl⟩
  obtain⟨f,hf⟩:∃f,(rdT x.r).2.2=f:=⟨_,rfl⟩
  unfold ok3 at RD
  rw[hzz] at hz RD ⊢
  rw[hf] at RD ⊢
  generalize (rdT x.r).1=t at *
  have hw:IntKind.i64.wrap ((i:Int)+(z:Int))=((i+z:Nat):Int):=by rw[IntKind.wrap_i64];omega
  have h1:=hc.c1
  have h2:=hc.c2
  have f1:=hc.fr 1
  have f2:=hc.fr 2
  have HC:=Lib.hid hc
  have RS:=Lib.hid RS
  have RD:=Lib.hid RD
  have HR:=Lib.hid hr
  have HZ:=Lib.hid hz
  have HL:=Lib.hid hl
  have HI:=Lib.hid hi
  clear hc hr hz hl hi he hzz hf
  go_enter Tryz.func97,Tryz.ntmps97
  go_wp2_with fail
  refine(RS.out).mono ?_
  rintro e W ⟨rfl,n,rfl⟩
  have h1:(w.drewN n).cell? ⟨cb,1,none⟩=some (.int .i64 i):=h1
  have h2:(w.drewN n).cell? ⟨cb,2,none⟩=some (.int .i64 0):=h2
  have f1:(w.drewN n).frozen? ⟨cb,1,none⟩=false:=f1
  have f2:(w.drewN n).frozen? ⟨cb,2,none⟩=false:=f2
  go_wp2_with fail
  refine(RD.out _).mono ?_
  rintro e W ⟨rfl,rfl⟩
  go_wp2_with fail
  go_ret
  refine⟨rfl,⟨i+z,by have:=HI.out;have:=HZ.out;have:=HL.out;omega,?_,by rw[←HR.out,List.drop_drop]⟩,?_⟩
  ·have h:=((HC.out.draws n).fail f).to (i+z)
   exact h
  ·exact qgju (qo6d (q99v _ _ _ _) (q99v _ _ _ _))
 ·rw[if_pos he]
  have h2:=hc.c2
  have he2:(((x.e:Nat):Int)==0)=false:=by simp;omega
  have he3:(((x.e:Nat):Int) != 0)=true:=by simp;omega
  have HH:=Lib.hid (show RsAt w cb s x from⟨i,hi,hc,hr⟩)
  clear he hc hi hr hl
  go_enter Tryz.func97,Tryz.ntmps97
  go_wp2_with fail
  go_ret
  exact⟨rfl,HH.out,World.grownBy.refl _ _⟩
end
structure QfS(w:World)(cb:Nat)(s:ByteArray)(y:Cs)(W:World):Prop where
 lt:cb < w.heap.size
 g:w.grownBy W (some cb)
 rs:W.heap[w.heap.size]? = some (.cells fiZ 32 (0,0))
 cs:RsAt W cb s y
section
variable{w W W':World}{cb:Nat}{s:ByteArray}{x y z:Cs}{v kind:Int}
theorem QfS.made(h:RsAt w cb s x):QfS w cb s x (w.alloc (.cells fiZ 32)):=
 ⟨h.lt,World.grownBy_alloc _ _ _,heap_alloc_new _ _,h.below (qybm _)⟩
theorem QfS.call(h:QfS w cb s y W)(hc:RsAt W' cb s z)(hg:W.grownBy W' (some cb)):QfS w cb s z W':=
 ⟨h.lt,qo6d h.g hg,(hg.block _ (lt_of_block h.rs) (fun e=>by have:=Option.some.inj e;have:=h.lt;omega)).trans h.rs,hc⟩
theorem QfS.below(h:QfS w cb s y W)(hb:Below W.heap.size W W'):QfS w cb s y W':=
 ⟨h.lt,qo6d h.g (q9cp hb _),(hb.block _ (lt_of_block h.rs)).trans h.rs,h.cs.below hb⟩
theorem QfS.ne(h:QfS w cb s y W):W.heap.size≠cb∧w.heap.size < W.heap.size:=⟨by have:=h.lt;have:=lt_of_block h.rs;omega,lt_of_block h.rs⟩
theorem QfS.set(h:QfS w cb s y W){b:Nat}(hb:w.heap.size < b)(j:Nat)(u:Value):QfS w cb s y (W.setCell ⟨b,j,none⟩ u):=
 ⟨h.lt,q5y0 h.g (by omega),(heap_setCell_other W ⟨b,j,none⟩ _ u (by show w.heap.size≠b;omega)).trans h.rs,h.cs.of_block (heap_setCell_other W ⟨b,j,none⟩ _ u (by show cb≠b;have:=h.lt;omega))⟩
theorem q53h(hm:s.size≤70000)(h:RsAt w cb s x) :
 Calls Tryz.prog 64 #[.int .i64 v,.int .i64 kind,.pointer (some ⟨cb,0,none⟩)] w fun e w'=>e = .returned (.agg (fiC (x.filt v kind).1))∧RsAt w' cb s (x.filt v kind).2∧w.grownBy w' (some cb):=by
 have TX:=fun W (h:RsAt W cb s x)=>qi43 hm h
 have hlt:=q4vu x.text.2
 unfold Cs.filt
 obtain⟨⟨t,y⟩,ht⟩:∃t,x.text=t:=⟨_,rfl⟩
 rw[ht] at TX hlt ⊢
 simp only at TX hlt ⊢
 have NM:=fun W (h:RsAt W cb s y)=>qyb5 1 (by decide) (show s.size≤9223372036854775807 by omega) h
 obtain⟨⟨n,z⟩,hz⟩:∃z,y.num 1=z:=⟨_,rfl⟩
 rw[hz] at NM hlt ⊢
 simp only at NM hlt ⊢
 have FL:=Lib.hid (fun W (h:RsAt W cb s z)=>qw3h 7 h)
 have R0:=Lib.hid (QfS.made h)
 unfold fiZ at R0
 replace TX:=Lib.hid TX
 replace NM:=Lib.hid NM
 have H5:=Lib.hid (show #[Value.string ⟨#[]⟩,.int .i64 0,.bool false,.bool false,.int .i64 0].size=5 from rfl)
 clear ht hz h
 by_cases hk:kind=10
 ·subst hk
  simp only[if_true]
  unfold fiC
  simp only
  generalize bs t=T at *
  have D1:=Lib.hid (show #[Value.string T,.int .i64 0,.bool false,.bool false,.int .i64 0].size=5 from rfl)
  have D2:=Lib.hid (show #[Value.string T,.int .i64 0,.bool false,.bool false,.int .i64 0].all (·.oneCell')=true by simp[Value.oneCell'])
  clear NM FL
  go_enter Tryz.func64,Tryz.ntmps64
  go_wp2_with fail
  refine(TX.out _ R0.out.cs).mono ?_
  rintro e w2 ⟨rfl,hc,hg⟩
  have R2:=Lib.hid (R0.out.call hc hg)
  have R3:=Lib.hid (R2.out.below (qybm (w:=w2) (.cells #[.string T,.int .i64 0,.bool false,.bool false,.int .i64 0] 32)))
  have F3:=Lib.hid (heap_alloc_new w2 (.cells #[.string T,.int .i64 0,.bool false,.bool false,.int .i64 0] 32))
  have G3:=Lib.hid R3.out.rs
  unfold fiZ at G3
  clear hc hg R0
  go_wp2_with (refine wpList_store_row rfl _ _ _ rfl w.heap.size #[.string T,.int .i64 0,.bool false,.bool false,.int .i64 0] rfl rfl 32 _ G3.out (by rw[D1.out];exact qhg6) (by rw[H5.out,D1.out]) D2.out ?_)
  have LT:=R3.out.lt
  refine q7wi rfl rfl rfl Tryz.underlying32 rfl (by rw[D1.out];exact qhg6) (setRow_heap _ _ _ _ _ _ G3.out) ⟨rfl,?_,?_⟩
  ·exact R3.out.cs.of_block (setRow_other _ _ _ _ (by omega))
  ·exact qacl R3.out.g (by omega) _
 ·rw[if_neg hk]
  have hk':(kind==10)=false:=beq_eq_false_iff_ne.2 hk
  have hn:(n:Int) < 256:=by omega
  have HB:=Lib.hid (show ∃(q r:Int) (a b:Bool),(n:Int)%4=q∧(n:Int) / 16%4=r∧((n:Int) / 4%2==1)=a∧((n:Int) / 8%2==1)=b∧fiC (q7vq t n)=#[.string (bs t),.int .i64 q,.bool a,.bool b,.int .i64 r] from by
   refine⟨((n%4:Nat):Int),((n / 16%4:Nat):Int),n / 4%2==1,n / 8%2==1,by omega,by omega,?_,?_,rfl⟩
   ·rw[Bool.eq_iff_iff];simp only[beq_iff_eq];omega
   ·rw[Bool.eq_iff_iff];simp only[beq_iff_eq];omega)
  obtain⟨O,hO⟩:∃O,fiC (q7vq t n)=O:=⟨_,rfl⟩
  rw[hO] at HB ⊢
  obtain⟨Y,hY⟩:∃Y,(if 63 < n∨v=4∧3 < n then z.fail 7 else z)=Y:=⟨_,rfl⟩
  rw[hY]
  have HY:=Lib.hid hY
  clear hk hY hO
  generalize bs t=T at *
  go_enter Tryz.func64,Tryz.ntmps64
  go_wp2_with fail
  refine(TX.out _ R0.out.cs).mono ?_
  rintro e w2 ⟨rfl,hc,hg⟩
  have R2:=Lib.hid (R0.out.call hc hg)
  have R3:=Lib.hid (R2.out.below (qybm (w:=w2) (.cells #[.string T,.int .i64 0,.bool false,.bool false,.int .i64 0] 32)))
  have F3:=Lib.hid (heap_alloc_new w2 (.cells #[.string T,.int .i64 0,.bool false,.bool false,.int .i64 0] 32))
  clear hc hg R0
  go_wp2_with fail
  refine(NM.out _ R3.out.cs).mono ?_
  rintro e w4 ⟨rfl,hc,hg⟩
  have hne:=R2.out.ne
  have F4:=Lib.hid ((hg.block _ (lt_of_block F3.out) (fun e=>hne.1 (Option.some.inj e))).trans F3.out)
  have R4:=Lib.hid (R3.out.call hc hg)
  have HNE:=Lib.hid hne
  clear hc hg R3 F3 R2 hne
  generalize w2.heap.size=b at *
  go_upto_region 5 with fail
  obtain⟨d,hd⟩:∃d,decide (63 < n∨(v=4∧3 < n))=d:=⟨_,rfl⟩
  have HYd:Y=if d=true then z.fail 7 else z:=by
   rw[←HY.out,←hd];simp only[decide_eq_true_eq]
  replace HY:=Lib.hid HYd
  clear HYd
  go_cut [27] (fun s27 wx=>s27 = .bool d∧wx=w4)
  case first=>
   clear HB HY R4 F4 HNE TX NM FL
   by_cases h1:63 < n
   ·have g1:decide ((63:Int) < (n:Int))=true:=decide_eq_true (by omega)
    obtain rfl:d=true:=by rw[←hd];exact decide_eq_true (.inl h1)
    clear hd h1 hlt
    go_wp2_with fail
    go_meet
    exact⟨rfl,rfl⟩
   ·have g1:decide ((63:Int) < (n:Int))=false:=decide_eq_false (by omega)
    by_cases h4:v=4
    ·have g2:decide ((3:Int) < (n:Int))=decide (63 < n∨(v=4∧3 < n)):=by rw[decide_eq_decide];omega
     have g4:(v==4)=true:=by rw[h4];rfl
     generalize decide (63 < n∨(v=4∧3 < n))=d at *
     clear h1 hlt h4
     go_wp2_with fail
     go_meet
     exact⟨rfl,rfl⟩
    ·have g4:(v==4)=false:=beq_eq_false_iff_ne.2 h4
     obtain rfl:d=false:=by rw[←hd];exact decide_eq_false (by omega)
     clear hd h1 hlt h4
     go_wp2_with fail
     go_meet
     exact⟨rfl,rfl⟩
  case rest=>
   obtain⟨rfl,rfl⟩:=hcut
   go_upto_if 27 with fail
   go_cut [] (fun wx=>QfS w cb s Y wx∧wx.heap[b]? = some (.cells #[.string T,.int .i64 0,.bool false,.bool false,.int .i64 0] 32 (0,0)))
   case first=>
    cases d with
    | true=>
     have e:Y=z.fail 7:=HY.out
     subst e
     clear HB HY
     go_wp2_with fail
     refine(FL.out _ R4.out.cs).mono ?_
     rintro e w5 ⟨rfl,hc,hg⟩
     have R5:=Lib.hid (R4.out.call hc hg)
     have F5:=Lib.hid ((hg.block _ (lt_of_block F4.out) (fun e=>HNE.out.1 (Option.some.inj e))).trans F4.out)
     clear hc hg
     go_wp2_with fail
     go_meet
     exact⟨R5.out,F5.out⟩
    | false=>
     have e:Y=z:=HY.out
     subst e
     clear HB HY
     go_wp2_with fail
     go_meet
     exact⟨R4.out,F4.out⟩
   case rest=>
    obtain⟨hR,hF⟩:=hcut
    obtain⟨q,r,a,c,e1,e2,e3,e4,hO⟩:=HB.out
    have hb:=HNE.out.2
    have h1:=hR.set hb 1 (.int .i64 q)
    have g1:=qlvy hF 1 (.int .i64 q)
    have h2:=h1.set hb 2 (.bool a)
    have g2:=qlvy g1 2 (.bool a)
    have h3:=h2.set hb 3 (.bool c)
    have g3:=qlvy g2 3 (.bool c)
    have h4:=h3.set hb 4 (.int .i64 r)
    have g4:=qlvy g3 4 (.int .i64 r)
    have k1:=(cell_of_row _ _ 1 _ _ _ hF).trans (show _=some (Value.int .i64 0) from rfl)
    have f1:=frozen_of_row _ _ 1 _ _ hF
    have k2:=(cell_of_row _ _ 2 _ _ _ g1).trans (show _=some (Value.bool false) from rfl)
    have f2:=frozen_of_row _ _ 2 _ _ g1
    have k3:=(cell_of_row _ _ 3 _ _ _ g2).trans (show _=some (Value.bool false) from rfl)
    have f3:=frozen_of_row _ _ 3 _ _ g2
    have k4:=(cell_of_row _ _ 4 _ _ _ g3).trans (show _=some (Value.int .i64 0) from rfl)
    have f4:=frozen_of_row _ _ 4 _ _ g3
    have R9:=Lib.hid h4
    have F9:=Lib.hid (g4.trans (show _=some (Obj.cells O 32 (0,0)) by rw[hO];rfl))
    have D1:=Lib.hid (show O.size=5 by rw[hO];rfl)
    have D2:=Lib.hid (show O.all (·.oneCell')=true by rw[hO];simp[Value.oneCell'])
    have G9:=Lib.hid h4.rs
    unfold fiZ at G9
    clear h1 h2 h3 h4 g1 g2 g3 g4 hF hR hO HY HB R4 F4 hlt
    go_upto_region 8 with fail
    go_wp2_with (first
     | (refine wpList_load_row rfl _ _ rfl b rfl 32 O (0,0) _ F9.out Tryz.underlying32 rfl (by rw[D1.out];exact qhg6) ?_)
     | (refine wpList_store_row rfl _ _ _ rfl w.heap.size O rfl rfl 32 _ G9.out (by rw[D1.out];exact qhg6) (by rw[H5.out,D1.out]) D2.out ?_))
    have LT:=R9.out.lt
    refine q7wi rfl rfl rfl Tryz.underlying32 rfl (by rw[D1.out];exact qhg6) (setRow_heap _ _ _ _ _ _ G9.out) ⟨rfl,?_,?_⟩
    ·exact R9.out.cs.of_block (setRow_other _ _ _ _ (by omega))
    ·exact qacl R9.out.g (by omega) _
end
theorem q7jb(d:Bool)(r:List UInt8):((rdB r).2.2≠0∧q91e d r=([],0,5))∨((rdB r).2.2=0∧d=false∧qecx (rdB r).1=false∧q91e d r=([],0,6))∨((rdB r).2.2=0∧(d=true∨(d=false∧qecx (rdB r).1=true))∧q91e d r=((rdB r).1,(rdB r).2.1,0)):=by
 unfold q91e
 by_cases h:(rdB r).2.2=0
 ·rw[if_neg (by simp[h])]
  cases d<;>cases hv:qecx (rdB r).1<;>simp[h]
 ·exact .inl ⟨h,by rw[if_pos h]⟩
theorem qs5r(s:ByteArray)(at' sh:Nat)(w:World)(hs:s.size≤70000)(ha:at'≤s.size)(_hsh:sh≤7) :
 Calls Tryz.prog 172 #[.string s,.int .i64 at',.int .i64 sh] w fun e w'=>e = .returned (.tuple #[.string (bs (q91e (sh==6) (s.data.toList.drop at')).1),.int .i64 (if (q91e (sh==6) (s.data.toList.drop at')).2.2=0 then at'+(q91e (sh==6) (s.data.toList.drop at')).2.1 else 0:Nat),.int .i64 ((q91e (sh==6) (s.data.toList.drop at')).2.2:Nat)])∧w'=w:=by
 have RB:=qra5 (s.extract at' s.size) w (by rw[q4ad,qh3u,List.length_drop,←q4ad];omega)
 rw[qh3u] at RB
 have hle:=q3gm (s.data.toList.drop at')
 rw[List.length_drop,←q4ad] at hle
 have q1:(at':Int)≤(s.size:Int):=by omega
 have q2:(0:Int)≤(at':Int):=by omega
 rcases q7jb (sh==6) (s.data.toList.drop at') with ⟨h1,h2⟩ | ⟨h1,h2,h3,h4⟩ | ⟨h1,h2,h3⟩
 ·rw[h2]
  unfold ok3 at RB
  generalize rdB (s.data.toList.drop at')=q at *
  obtain⟨t,k,z⟩:=q
  have n0:(((z:Nat):Int) != 0)=true:=by rw[bne_iff_ne];simp at h1;omega
  have RB:=Lib.hid RB
  simp only[show ¬(5:Nat)=0 by decide,if_false]
  clear h1 h2 hle hs ha _hsh
  go_enter Tryz.func172,Tryz.ntmps172
  go_wp2_with fail
  refine(RB.out).mono ?_
  rintro e w1 ⟨rfl,rfl⟩
  go_wp2_with fail
  go_ret3
  exact⟨rfl,rfl⟩
 ·rw[h4]
  have n6:(((sh:Nat):Int) != 6)=true:=by rw[bne_iff_ne];simp at h2;omega
  unfold ok3 at RB
  rw[h1] at RB
  have VA:=qcip (bs (rdB (s.data.toList.drop at')).1)
  rw[qkd1,h3] at VA
  generalize rdB (s.data.toList.drop at')=q at *
  obtain⟨t,k,z⟩:=q
  have RB:=Lib.hid RB
  have VA:=Lib.hid VA
  simp only[show ¬(6:Nat)=0 by decide,if_false]
  clear h1 h2 h3 h4 hle hs ha _hsh
  go_enter Tryz.func172,Tryz.ntmps172
  go_wp2_with fail
  refine(RB.out).mono ?_
  rintro e w1 ⟨rfl,rfl⟩
  go_wp2_with fail
  refine(VA.out _).mono ?_
  rintro e w1 ⟨rfl,rfl⟩
  go_wp2_with fail
  go_ret3
  exact⟨rfl,rfl⟩
 ·rw[h3]
  unfold ok3 at RB
  rw[h1] at RB
  have VA:=qcip (bs (rdB (s.data.toList.drop at')).1)
  rw[qkd1] at VA
  generalize hq:rdB (s.data.toList.drop at')=q at *
  obtain⟨t,k,z⟩:=q
  obtain⟨y,hy⟩:∃y,at'+k=y:=⟨_,rfl⟩
  have q3:IntKind.i64.wrap ((at':Int)+(k:Int))=(y:Int):=by simp only[IntKind.wrap_i64];simp at hle;omega
  have RB:=Lib.hid RB
  simp only[if_true,hy]
  rcases h2 with h2 | ⟨h2,hv⟩
  ·have n6:(((sh:Nat):Int) != 6)=false:=by simp at h2;rw[h2];rfl
   clear h1 h2 h3 hle hs ha _hsh hq hy VA
   go_enter Tryz.func172,Tryz.ntmps172
   go_wp2_with fail
   refine(RB.out).mono ?_
   rintro e w1 ⟨rfl,rfl⟩
   go_wp2_with fail
   go_ret3
   exact⟨rfl,rfl⟩
  ·have n6:(((sh:Nat):Int) != 6)=true:=by rw[bne_iff_ne];simp at h2;omega
   rw[hv] at VA
   have VA:=Lib.hid VA
   clear h1 h2 h3 hle hs ha _hsh hq hy hv
   go_enter Tryz.func172,Tryz.ntmps172
   go_wp2_with fail
   refine(RB.out).mono ?_
   rintro e w1 ⟨rfl,rfl⟩
   go_wp2_with fail
   refine(VA.out _).mono ?_
   rintro e w1 ⟨rfl,rfl⟩
   go_wp2_with fail
   go_ret3
   exact⟨rfl,rfl⟩
theorem qit4{fn:Func}{p u v:Tmp}{ty:TypeId}(h:fn.results=#[.cell p ty,.tmp u,.tmp v])(tmps:Array Value)(P:Program)(w:World) :
 (results fn tmps).run P w=
  ((asAddr (tmps.getD p undef)).run P w).andThen fun a w₁=>((loadVar ty a).run P w₁).andThen fun x w₂ => .ok (.tuple #[x,tmps.getD u undef,tmps.getD v undef]) w₂:=by
 simp only[results,h]
 simp[Sem.run_bind,Result.andThen]
theorem qhfo{fn:Func}{R:Ending→World→Prop}{a:Act}{W:World}{p u v:Tmp}{B:Nat}{cs:Array Value}{x y:Value}(h:fn.results=#[.cell p 81,.tmp u,.tmp v])(hp:a.tmps.getD p undef = .pointer (some ⟨B,0,none⟩))(hu:a.tmps.getD u undef=x)(hv:a.tmps.getD v undef=y)(hd:a.defers=[])(hcs:cs.size=4)
 (hg:W.heap[B]? = some (.cells cs 81 (0,0))) (hR:R (.returned (.tuple #[.agg cs,x,y])) W):bodyPost Tryz.prog fn R .ret a W:=by
 refine bodyPost_ret (v := .tuple #[.agg cs,x,y]) ?_ hd hR
 rw[qit4 h,hp,hu,hv]
 have:=run_loadVar_row (P:=Tryz.prog) W B 81 81 cs (0,0) _ hg Tryz.underlying81 rfl (by rw[hcs];kernel_rfl)
 simp[asAddr,this,Result.andThen]
def NtB(w W:World):Prop:=Below w.heap.size w W∧W.heap[w.heap.size]? = some (.cells #[.int .i64 0,.int .u32 0,.string ⟨#[]⟩,.string ⟨#[]⟩] 81 (0,0))
theorem NtB.alloc{w W:World}(h:NtB w W)(o:Obj):NtB w (W.alloc o):=⟨h.1.alloc h.1.size o,(heap_alloc_old _ _ (lt_of_block h.2)).trans h.2⟩
theorem NtB.setP{w W:World}(h:NtB w W)(j:Nat)(v:Value):NtB w (W.setCell ⟨w.heap.size+1,j,none⟩ v):=
 ⟨⟨h.1.os,h.1.tape,h.1.output,by have:=h.1.size;simpa [World.setCell] using this,fun k hk=>(Below.heap_setCell _ _ _ _ (show k≠w.heap.size+1 by omega)).trans (h.1.block k hk)⟩,(Below.heap_setCell _ _ _ _ (show w.heap.size≠w.heap.size+1 by omega)).trans h.2⟩
theorem NtB.fin{w W:World}(h:NtB w W)(a b c d:Value):(set4 W w.heap.size a b c d).heap[w.heap.size]? = some (.cells #[a,b,c,d] 81 (0,0))∧Below w.heap.size w (set4 W w.heap.size a b c d):=
 ⟨qgwu h.2 a b c d,qden h.1 (Nat.le_refl _) a b c d⟩
theorem qq1t(w:World)(x:Int):RowKit.Hid (((w.alloc (.cells #[.int .i64 0,.int .u32 0,.string ⟨#[]⟩,.string ⟨#[]⟩] 81)).alloc (.cells #[.int .i64 x,.int .u32 0,.string ⟨#[]⟩,.string ⟨#[]⟩] 81)).heap[w.heap.size+1]? = some (.cells #[.int .i64 x,.int .u32 0,.string ⟨#[]⟩,.string ⟨#[]⟩] 81 (0,0)))∧RowKit.Hid (((w.alloc (.cells #[.int .i64 0,.int .u32 0,.string ⟨#[]⟩,.string ⟨#[]⟩] 81)).alloc (.cells #[.int .i64 x,.int .u32 0,.string ⟨#[]⟩,.string ⟨#[]⟩] 81)).heap[w.heap.size]? = some (.cells #[.int .i64 0,.int .u32 0,.string ⟨#[]⟩,.string ⟨#[]⟩] 81 (0,0)))∧RowKit.Hid (Below w.heap.size w ((w.alloc (.cells #[.int .i64 0,.int .u32 0,.string ⟨#[]⟩,.string ⟨#[]⟩] 81)).alloc (.cells #[.int .i64 x,.int .u32 0,.string ⟨#[]⟩,.string ⟨#[]⟩] 81))):=by
 have PH0:((w.alloc (.cells #[.int .i64 0,.int .u32 0,.string ⟨#[]⟩,.string ⟨#[]⟩] 81)).alloc (.cells #[.int .i64 x,.int .u32 0,.string ⟨#[]⟩,.string ⟨#[]⟩] 81)).heap[w.heap.size+1]? = some (.cells #[.int .i64 x,.int .u32 0,.string ⟨#[]⟩,.string ⟨#[]⟩] 81 (0,0)):=by
  have:=heap_alloc_new (w.alloc (.cells #[.int .i64 0,.int .u32 0,.string ⟨#[]⟩,.string ⟨#[]⟩] 81)) (.cells #[.int .i64 x,.int .u32 0,.string ⟨#[]⟩,.string ⟨#[]⟩] 81)
  rwa [World.size_alloc] at this
 have RH0:((w.alloc (.cells #[.int .i64 0,.int .u32 0,.string ⟨#[]⟩,.string ⟨#[]⟩] 81)).alloc (.cells #[.int .i64 x,.int .u32 0,.string ⟨#[]⟩,.string ⟨#[]⟩] 81)).heap[w.heap.size]? = some (.cells #[.int .i64 0,.int .u32 0,.string ⟨#[]⟩,.string ⟨#[]⟩] 81 (0,0)):=(heap_alloc_old _ _ (by simp)).trans (heap_alloc_new w _)
 have BH0:Below w.heap.size w ((w.alloc (.cells #[.int .i64 0,.int .u32 0,.string ⟨#[]⟩,.string ⟨#[]⟩] 81)).alloc (.cells #[.int .i64 x,.int .u32 0,.string ⟨#[]⟩,.string ⟨#[]⟩] 81)):=((Below.refl _ _).alloc (Nat.le_refl _) _).alloc (by simp) _
 have PH1:=Lib.hid PH0
 have RH1:=Lib.hid RH0
 have BH:=Lib.hid BH0
 exact⟨PH1,RH1,BH⟩
theorem qker{w w2:World}{x:Int}(RQ:w2.heap[w.heap.size]? = some (.cells #[.int .i64 0,.int .u32 0,.string ⟨#[]⟩,.string ⟨#[]⟩] 81 (0,0)))(PQ:w2.heap[w.heap.size+1]? = some (.cells #[.int .i64 x,.int .u32 0,.string ⟨#[]⟩,.string ⟨#[]⟩] 81 (0,0))) :
 (∀o,(w2.alloc o).cell? ⟨w.heap.size,0,none⟩=(#[.int .i64 0,.int .u32 0,.string ⟨#[]⟩,.string ⟨#[]⟩]:Array Value)[0]?)∧(∀o,(w2.alloc o).frozen? ⟨w.heap.size,0,none⟩=false)∧(∀o,(w2.alloc o).cell? ⟨w.heap.size,1,none⟩=(#[.int .i64 0,.int .u32 0,.string ⟨#[]⟩,.string ⟨#[]⟩]:Array Value)[1]?)∧(∀o,(w2.alloc o).frozen? ⟨w.heap.size,1,none⟩=false)∧(∀o,(w2.alloc o).cell? ⟨w.heap.size,2,none⟩=(#[.int .i64 0,.int .u32 0,.string ⟨#[]⟩,.string ⟨#[]⟩]:Array Value)[2]?)∧(∀o,(w2.alloc o).frozen? ⟨w.heap.size,2,none⟩=false)∧(∀o,(w2.alloc o).cell? ⟨w.heap.size,3,none⟩=(#[.int .i64 0,.int .u32 0,.string ⟨#[]⟩,.string ⟨#[]⟩]:Array Value)[3]?)∧(∀o,(w2.alloc o).frozen? ⟨w.heap.size,3,none⟩=false)∧(∀o,(w2.alloc o).cell? ⟨w.heap.size+1,0,none⟩=(#[.int .i64 x,.int .u32 0,.string ⟨#[]⟩,.string ⟨#[]⟩]:Array Value)[0]?)∧(∀o,(w2.alloc o).frozen? ⟨w.heap.size+1,0,none⟩=false)∧(∀o,(w2.alloc o).cell? ⟨w.heap.size+1,1,none⟩=(#[.int .i64 x,.int .u32 0,.string ⟨#[]⟩,.string ⟨#[]⟩]:Array Value)[1]?)∧(∀o,(w2.alloc o).frozen? ⟨w.heap.size+1,1,none⟩=false)∧(∀o,(w2.alloc o).cell? ⟨w.heap.size+1,2,none⟩=(#[.int .i64 x,.int .u32 0,.string ⟨#[]⟩,.string ⟨#[]⟩]:Array Value)[2]?)∧(∀o,(w2.alloc o).frozen? ⟨w.heap.size+1,2,none⟩=false)∧(∀o,(w2.alloc o).cell? ⟨w.heap.size+1,3,none⟩=(#[.int .i64 x,.int .u32 0,.string ⟨#[]⟩,.string ⟨#[]⟩]:Array Value)[3]?)∧(∀o,(w2.alloc o).frozen? ⟨w.heap.size+1,3,none⟩=false):=by
 have RH:=fun o=>(heap_alloc_old w2 o (lt_of_block RQ)).trans RQ
 have PH:=fun o=>(heap_alloc_old w2 o (lt_of_block PQ)).trans PQ
 exact⟨fun o=>cell_of_row _ _ _ _ _ _ (RH o),fun o=>frozen_of_row _ _ _ _ _ (RH o),fun o=>cell_of_row _ _ _ _ _ _ (RH o),fun o=>frozen_of_row _ _ _ _ _ (RH o),fun o=>cell_of_row _ _ _ _ _ _ (RH o),fun o=>frozen_of_row _ _ _ _ _ (RH o),fun o=>cell_of_row _ _ _ _ _ _ (RH o),fun o=>frozen_of_row _ _ _ _ _ (RH o),fun o=>cell_of_row _ _ _ _ _ _ (PH o),fun o=>frozen_of_row _ _ _ _ _ (PH o),fun o=>cell_of_row _ _ _ _ _ _ (PH o),fun o=>frozen_of_row _ _ _ _ _ (PH o),fun o=>cell_of_row _ _ _ _ _ _ (PH o),fun o=>frozen_of_row _ _ _ _ _ (PH o),fun o=>cell_of_row _ _ _ _ _ _ (PH o),fun o=>frozen_of_row _ _ _ _ _ (PH o)⟩
theorem qv0q{w w2:World}{x:Int}(RQ:w2.heap[w.heap.size]? = some (.cells #[.int .i64 0,.int .u32 0,.string ⟨#[]⟩,.string ⟨#[]⟩] 81 (0,0)))(PQ:w2.heap[w.heap.size+1]? = some (.cells #[.int .i64 x,.int .u32 0,.string ⟨#[]⟩,.string ⟨#[]⟩] 81 (0,0))) :
 (w2.cell? ⟨w.heap.size,0,none⟩=(#[.int .i64 0,.int .u32 0,.string ⟨#[]⟩,.string ⟨#[]⟩]:Array Value)[0]?)∧(w2.frozen? ⟨w.heap.size,0,none⟩=false)∧(w2.cell? ⟨w.heap.size,1,none⟩=(#[.int .i64 0,.int .u32 0,.string ⟨#[]⟩,.string ⟨#[]⟩]:Array Value)[1]?)∧(w2.frozen? ⟨w.heap.size,1,none⟩=false)∧(w2.cell? ⟨w.heap.size,2,none⟩=(#[.int .i64 0,.int .u32 0,.string ⟨#[]⟩,.string ⟨#[]⟩]:Array Value)[2]?)∧(w2.frozen? ⟨w.heap.size,2,none⟩=false)∧(w2.cell? ⟨w.heap.size,3,none⟩=(#[.int .i64 0,.int .u32 0,.string ⟨#[]⟩,.string ⟨#[]⟩]:Array Value)[3]?)∧(w2.frozen? ⟨w.heap.size,3,none⟩=false)∧(w2.cell? ⟨w.heap.size+1,0,none⟩=(#[.int .i64 x,.int .u32 0,.string ⟨#[]⟩,.string ⟨#[]⟩]:Array Value)[0]?)∧(w2.frozen? ⟨w.heap.size+1,0,none⟩=false)∧(w2.cell? ⟨w.heap.size+1,1,none⟩=(#[.int .i64 x,.int .u32 0,.string ⟨#[]⟩,.string ⟨#[]⟩]:Array Value)[1]?)∧(w2.frozen? ⟨w.heap.size+1,1,none⟩=false)∧(w2.cell? ⟨w.heap.size+1,2,none⟩=(#[.int .i64 x,.int .u32 0,.string ⟨#[]⟩,.string ⟨#[]⟩]:Array Value)[2]?)∧(w2.frozen? ⟨w.heap.size+1,2,none⟩=false)∧(w2.cell? ⟨w.heap.size+1,3,none⟩=(#[.int .i64 x,.int .u32 0,.string ⟨#[]⟩,.string ⟨#[]⟩]:Array Value)[3]?)∧(w2.frozen? ⟨w.heap.size+1,3,none⟩=false):=
 ⟨cell_of_row _ _ _ _ _ _ RQ,frozen_of_row _ _ _ _ _ RQ,cell_of_row _ _ _ _ _ _ RQ,frozen_of_row _ _ _ _ _ RQ,cell_of_row _ _ _ _ _ _ RQ,frozen_of_row _ _ _ _ _ RQ,cell_of_row _ _ _ _ _ _ RQ,frozen_of_row _ _ _ _ _ RQ,cell_of_row _ _ _ _ _ _ PQ,frozen_of_row _ _ _ _ _ PQ,cell_of_row _ _ _ _ _ _ PQ,frozen_of_row _ _ _ _ _ PQ,cell_of_row _ _ _ _ _ _ PQ,frozen_of_row _ _ _ _ _ PQ,cell_of_row _ _ _ _ _ _ PQ,frozen_of_row _ _ _ _ _ PQ⟩
section
variable{x:Int}{s:ByteArray}
theorem qvsf(LK:∀W,Calls Tryz.prog 171 #[.int .i64 x] W fun e w'=>∃A m y z,e = .returned (.agg #[.int .i64 1,.slice A m m,.int .u32 y,.int .u32 z])∧Below W.heap.size W w')(h0:0 < s.size)(hx:(((s[0]'h0).toNat:Nat):Int)=x)(wx:IntKind.i64.wrap x=x){y:Nat}(q1:IntKind.i64.wrap ((s.size:Int) - 1)=(y:Int))(q2:(y:Int) < 1)(w:World) :
 Calls Tryz.prog 143 #[.string s] w fun e w'=>e = .returned (.tuple #[.agg #[.int .i64 x,.int .u32 0,.string ⟨#[]⟩,.string ⟨#[]⟩],.int .i64 0,.int .i64 5])∧Below w.heap.size w w':=by
 have LK:=Lib.hid LK
 have g0:(0:Int) < (s.size:Int):=by omega
 have e0:¬s=ByteArray.empty:=fun e=>by rw[e] at h0;exact absurd h0 (by decide)
 obtain⟨PH1,RH1,BH⟩:=qq1t w x
 go_enter Tryz.func143,Tryz.ntmps143
 go_wp2_with fail
 refine(LK.out _).mono ?_
 rintro e w2 ⟨A,m,y,z,rfl,hb⟩
 have RQ:=Lib.hid ((hb.block w.heap.size (lt_of_block RH1.out)).trans RH1.out)
 have PQ:=Lib.hid ((hb.block (w.heap.size+1) (lt_of_block PH1.out)).trans PH1.out)
 have NB:=Lib.hid (show NtB w w2 from⟨BH.out.trans (hb.mono BH.out.size),RQ.out⟩)
 have F0:=qkrp 1 A m m y z
 clear hb
 obtain⟨r0,rf0,r1,rf1,r2,rf2,r3,rf3,p0,pf0,p1,pf1,p2,pf2,p3,pf3⟩:=qker RQ.out PQ.out
 go_wp2_with fail
 obtain⟨k1,k2⟩:=(NB.out.alloc (.cells #[.int .i64 0,.int .i64 1,.int .i64 2,.int .i64 4] 3)).fin (.int .i64 x) (.int .u32 0) (.string ⟨#[]⟩) (.string ⟨#[]⟩)
 exact qhfo rfl rfl rfl rfl rfl rfl k1 ⟨rfl,k2⟩
theorem qb19(LK:∀W,Calls Tryz.prog 171 #[.int .i64 x] W fun e w'=>∃A m y z,e = .returned (.agg #[.int .i64 1,.slice A m m,.int .u32 y,.int .u32 z])∧Below W.heap.size W w')(h0:0 < s.size)(hx:(((s[0]'h0).toNat:Nat):Int)=x)(wx:IntKind.i64.wrap x=x){y V:Nat}(q1:IntKind.i64.wrap ((s.size:Int) - 1)=(y:Int))(q2:¬(y:Int) < 1)(q3:(2:Int)≤(s.size:Int))(hw:IntKind.u32.wrap (V:Int)=(V:Int))(GT:∀W,Calls Tryz.prog 93 #[.string (s.extract 1 2)] W fun e w'=>e = .returned (.int .u64 V)∧W=w')(w:World) :
 Calls Tryz.prog 143 #[.string s] w fun e w'=>e = .returned (.tuple #[.agg #[.int .i64 x,.int .u32 V,.string ⟨#[]⟩,.string ⟨#[]⟩],.int .i64 2,.int .i64 0])∧Below w.heap.size w w':=by
 have LK:=Lib.hid LK
 have GT:=Lib.hid GT
 have g0:(0:Int) < (s.size:Int):=by omega
 have e0:¬s=ByteArray.empty:=fun e=>by rw[e] at h0;exact absurd h0 (by decide)
 obtain⟨PH1,RH1,BH⟩:=qq1t w x
 go_enter Tryz.func143,Tryz.ntmps143
 go_wp2_with fail
 refine(LK.out _).mono ?_
 rintro e w2 ⟨A,m,y,z,rfl,hb⟩
 have RQ:=Lib.hid ((hb.block w.heap.size (lt_of_block RH1.out)).trans RH1.out)
 have PQ:=Lib.hid ((hb.block (w.heap.size+1) (lt_of_block PH1.out)).trans PH1.out)
 have NB:=Lib.hid (show NtB w w2 from⟨BH.out.trans (hb.mono BH.out.size),RQ.out⟩)
 have F0:=qkrp 1 A m m y z
 clear hb
 obtain⟨r0,rf0,r1,rf1,r2,rf2,r3,rf3,p0,pf0,p1,pf1,p2,pf2,p3,pf3⟩:=qker RQ.out PQ.out
 go_wp2_with fail
 refine(GT.out _).mono ?_
 rintro e w3 ⟨rfl,rfl⟩
 go_wp2_with fail
 obtain⟨k1,k2⟩:=((NB.out.alloc (.cells #[.int .i64 0,.int .i64 1,.int .i64 2,.int .i64 4] 3)).setP 1 (.int .u32 V)).fin (.int .i64 x) (.int .u32 V) (.string ⟨#[]⟩) (.string ⟨#[]⟩)
 exact qhfo rfl rfl rfl rfl rfl rfl k1 ⟨rfl,k2⟩
theorem q9m3(LK:∀W,Calls Tryz.prog 171 #[.int .i64 x] W fun e w'=>∃A m y z,e = .returned (.agg #[.int .i64 2,.slice A m m,.int .u32 y,.int .u32 z])∧Below W.heap.size W w')(h0:0 < s.size)(hx:(((s[0]'h0).toNat:Nat):Int)=x)(wx:IntKind.i64.wrap x=x){y:Nat}(q1:IntKind.i64.wrap ((s.size:Int) - 1)=(y:Int))(q2:(y:Int) < 2)(w:World) :
 Calls Tryz.prog 143 #[.string s] w fun e w'=>e = .returned (.tuple #[.agg #[.int .i64 x,.int .u32 0,.string ⟨#[]⟩,.string ⟨#[]⟩],.int .i64 0,.int .i64 5])∧Below w.heap.size w w':=by
 have LK:=Lib.hid LK
 have g0:(0:Int) < (s.size:Int):=by omega
 have e0:¬s=ByteArray.empty:=fun e=>by rw[e] at h0;exact absurd h0 (by decide)
 obtain⟨PH1,RH1,BH⟩:=qq1t w x
 go_enter Tryz.func143,Tryz.ntmps143
 go_wp2_with fail
 refine(LK.out _).mono ?_
 rintro e w2 ⟨A,m,y,z,rfl,hb⟩
 have RQ:=Lib.hid ((hb.block w.heap.size (lt_of_block RH1.out)).trans RH1.out)
 have PQ:=Lib.hid ((hb.block (w.heap.size+1) (lt_of_block PH1.out)).trans PH1.out)
 have NB:=Lib.hid (show NtB w w2 from⟨BH.out.trans (hb.mono BH.out.size),RQ.out⟩)
 have F0:=qkrp 2 A m m y z
 clear hb
 obtain⟨r0,rf0,r1,rf1,r2,rf2,r3,rf3,p0,pf0,p1,pf1,p2,pf2,p3,pf3⟩:=qker RQ.out PQ.out
 go_wp2_with fail
 obtain⟨k1,k2⟩:=(NB.out.alloc (.cells #[.int .i64 0,.int .i64 1,.int .i64 2,.int .i64 4] 3)).fin (.int .i64 x) (.int .u32 0) (.string ⟨#[]⟩) (.string ⟨#[]⟩)
 exact qhfo rfl rfl rfl rfl rfl rfl k1 ⟨rfl,k2⟩
theorem q7q4(LK:∀W,Calls Tryz.prog 171 #[.int .i64 x] W fun e w'=>∃A m y z,e = .returned (.agg #[.int .i64 2,.slice A m m,.int .u32 y,.int .u32 z])∧Below W.heap.size W w')(h0:0 < s.size)(hx:(((s[0]'h0).toNat:Nat):Int)=x)(wx:IntKind.i64.wrap x=x){y V:Nat}(q1:IntKind.i64.wrap ((s.size:Int) - 1)=(y:Int))(q2:¬(y:Int) < 2)(q3:(3:Int)≤(s.size:Int))(hw:IntKind.u32.wrap (V:Int)=(V:Int))(GT:∀W,Calls Tryz.prog 93 #[.string (s.extract 1 3)] W fun e w'=>e = .returned (.int .u64 V)∧W=w')(w:World) :
 Calls Tryz.prog 143 #[.string s] w fun e w'=>e = .returned (.tuple #[.agg #[.int .i64 x,.int .u32 V,.string ⟨#[]⟩,.string ⟨#[]⟩],.int .i64 3,.int .i64 0])∧Below w.heap.size w w':=by
 have LK:=Lib.hid LK
 have GT:=Lib.hid GT
 have g0:(0:Int) < (s.size:Int):=by omega
 have e0:¬s=ByteArray.empty:=fun e=>by rw[e] at h0;exact absurd h0 (by decide)
 obtain⟨PH1,RH1,BH⟩:=qq1t w x
 go_enter Tryz.func143,Tryz.ntmps143
 go_wp2_with fail
 refine(LK.out _).mono ?_
 rintro e w2 ⟨A,m,y,z,rfl,hb⟩
 have RQ:=Lib.hid ((hb.block w.heap.size (lt_of_block RH1.out)).trans RH1.out)
 have PQ:=Lib.hid ((hb.block (w.heap.size+1) (lt_of_block PH1.out)).trans PH1.out)
 have NB:=Lib.hid (show NtB w w2 from⟨BH.out.trans (hb.mono BH.out.size),RQ.out⟩)
 have F0:=qkrp 2 A m m y z
 clear hb
 obtain⟨r0,rf0,r1,rf1,r2,rf2,r3,rf3,p0,pf0,p1,pf1,p2,pf2,p3,pf3⟩:=qker RQ.out PQ.out
 go_wp2_with fail
 refine(GT.out _).mono ?_
 rintro e w3 ⟨rfl,rfl⟩
 go_wp2_with fail
 obtain⟨k1,k2⟩:=((NB.out.alloc (.cells #[.int .i64 0,.int .i64 1,.int .i64 2,.int .i64 4] 3)).setP 1 (.int .u32 V)).fin (.int .i64 x) (.int .u32 V) (.string ⟨#[]⟩) (.string ⟨#[]⟩)
 exact qhfo rfl rfl rfl rfl rfl rfl k1 ⟨rfl,k2⟩
theorem q4cs(LK:∀W,Calls Tryz.prog 171 #[.int .i64 x] W fun e w'=>∃A m y z,e = .returned (.agg #[.int .i64 3,.slice A m m,.int .u32 y,.int .u32 z])∧Below W.heap.size W w')(h0:0 < s.size)(hx:(((s[0]'h0).toNat:Nat):Int)=x)(wx:IntKind.i64.wrap x=x){y:Nat}(q1:IntKind.i64.wrap ((s.size:Int) - 1)=(y:Int))(q2:(y:Int) < 4)(w:World) :
 Calls Tryz.prog 143 #[.string s] w fun e w'=>e = .returned (.tuple #[.agg #[.int .i64 x,.int .u32 0,.string ⟨#[]⟩,.string ⟨#[]⟩],.int .i64 0,.int .i64 5])∧Below w.heap.size w w':=by
 have LK:=Lib.hid LK
 have g0:(0:Int) < (s.size:Int):=by omega
 have e0:¬s=ByteArray.empty:=fun e=>by rw[e] at h0;exact absurd h0 (by decide)
 obtain⟨PH1,RH1,BH⟩:=qq1t w x
 go_enter Tryz.func143,Tryz.ntmps143
 go_wp2_with fail
 refine(LK.out _).mono ?_
 rintro e w2 ⟨A,m,y,z,rfl,hb⟩
 have RQ:=Lib.hid ((hb.block w.heap.size (lt_of_block RH1.out)).trans RH1.out)
 have PQ:=Lib.hid ((hb.block (w.heap.size+1) (lt_of_block PH1.out)).trans PH1.out)
 have NB:=Lib.hid (show NtB w w2 from⟨BH.out.trans (hb.mono BH.out.size),RQ.out⟩)
 have F0:=qkrp 3 A m m y z
 clear hb
 obtain⟨r0,rf0,r1,rf1,r2,rf2,r3,rf3,p0,pf0,p1,pf1,p2,pf2,p3,pf3⟩:=qker RQ.out PQ.out
 go_wp2_with fail
 obtain⟨k1,k2⟩:=(NB.out.alloc (.cells #[.int .i64 0,.int .i64 1,.int .i64 2,.int .i64 4] 3)).fin (.int .i64 x) (.int .u32 0) (.string ⟨#[]⟩) (.string ⟨#[]⟩)
 exact qhfo rfl rfl rfl rfl rfl rfl k1 ⟨rfl,k2⟩
theorem qv8u(LK:∀W,Calls Tryz.prog 171 #[.int .i64 x] W fun e w'=>∃A m y z,e = .returned (.agg #[.int .i64 3,.slice A m m,.int .u32 y,.int .u32 z])∧Below W.heap.size W w')(h0:0 < s.size)(hx:(((s[0]'h0).toNat:Nat):Int)=x)(wx:IntKind.i64.wrap x=x){y V:Nat}(q1:IntKind.i64.wrap ((s.size:Int) - 1)=(y:Int))(q2:¬(y:Int) < 4)(q3:(5:Int)≤(s.size:Int))(hw:IntKind.u32.wrap (V:Int)=(V:Int))(GT:∀W,Calls Tryz.prog 93 #[.string (s.extract 1 5)] W fun e w'=>e = .returned (.int .u64 V)∧W=w')(w:World) :
 Calls Tryz.prog 143 #[.string s] w fun e w'=>e = .returned (.tuple #[.agg #[.int .i64 x,.int .u32 V,.string ⟨#[]⟩,.string ⟨#[]⟩],.int .i64 5,.int .i64 0])∧Below w.heap.size w w':=by
 have LK:=Lib.hid LK
 have GT:=Lib.hid GT
 have g0:(0:Int) < (s.size:Int):=by omega
 have e0:¬s=ByteArray.empty:=fun e=>by rw[e] at h0;exact absurd h0 (by decide)
 obtain⟨PH1,RH1,BH⟩:=qq1t w x
 go_enter Tryz.func143,Tryz.ntmps143
 go_wp2_with fail
 refine(LK.out _).mono ?_
 rintro e w2 ⟨A,m,y,z,rfl,hb⟩
 have RQ:=Lib.hid ((hb.block w.heap.size (lt_of_block RH1.out)).trans RH1.out)
 have PQ:=Lib.hid ((hb.block (w.heap.size+1) (lt_of_block PH1.out)).trans PH1.out)
 have NB:=Lib.hid (show NtB w w2 from⟨BH.out.trans (hb.mono BH.out.size),RQ.out⟩)
 have F0:=qkrp 3 A m m y z
 clear hb
 obtain⟨r0,rf0,r1,rf1,r2,rf2,r3,rf3,p0,pf0,p1,pf1,p2,pf2,p3,pf3⟩:=qker RQ.out PQ.out
 go_wp2_with fail
 refine(GT.out _).mono ?_
 rintro e w3 ⟨rfl,rfl⟩
 go_wp2_with fail
 obtain⟨k1,k2⟩:=((NB.out.alloc (.cells #[.int .i64 0,.int .i64 1,.int .i64 2,.int .i64 4] 3)).setP 1 (.int .u32 V)).fin (.int .i64 x) (.int .u32 V) (.string ⟨#[]⟩) (.string ⟨#[]⟩)
 exact qhfo rfl rfl rfl rfl rfl rfl k1 ⟨rfl,k2⟩
theorem qmk8(LK:∀W,Calls Tryz.prog 171 #[.int .i64 x] W fun e w'=>∃A m y z,e = .returned (.agg #[.int .i64 4,.slice A m m,.int .u32 y,.int .u32 z])∧Below W.heap.size W w')(h0:0 < s.size)(hx:(((s[0]'h0).toNat:Nat):Int)=x)(wx:IntKind.i64.wrap x=x){V k z:Int}(nz:(z != 0)=true)(q3:(1:Int)≤(s.size:Int))(RD:∀W,Calls Tryz.prog 141 #[.string (s.extract 1 s.size)] W fun e w'=>e = .returned (.tuple #[.int .i64 V,.int .i64 k,.int .i64 z])∧W=w')(w:World) :
 Calls Tryz.prog 143 #[.string s] w fun e w'=>e = .returned (.tuple #[.agg #[.int .i64 x,.int .u32 0,.string ⟨#[]⟩,.string ⟨#[]⟩],.int .i64 0,.int .i64 5])∧Below w.heap.size w w':=by
 have LK:=Lib.hid LK
 have RD:=Lib.hid RD
 have g0:(0:Int) < (s.size:Int):=by omega
 have e0:¬s=ByteArray.empty:=fun e=>by rw[e] at h0;exact absurd h0 (by decide)
 obtain⟨PH1,RH1,BH⟩:=qq1t w x
 go_enter Tryz.func143,Tryz.ntmps143
 go_wp2_with fail
 refine(LK.out _).mono ?_
 rintro e w2 ⟨A,m,y,z,rfl,hb⟩
 have RQ:=Lib.hid ((hb.block w.heap.size (lt_of_block RH1.out)).trans RH1.out)
 have PQ:=Lib.hid ((hb.block (w.heap.size+1) (lt_of_block PH1.out)).trans PH1.out)
 have NB:=Lib.hid (show NtB w w2 from⟨BH.out.trans (hb.mono BH.out.size),RQ.out⟩)
 have F0:=qkrp 4 A m m y z
 clear hb
 obtain⟨r0,rf0,r1,rf1,r2,rf2,r3,rf3,p0,pf0,p1,pf1,p2,pf2,p3,pf3⟩:=qv0q RQ.out PQ.out
 go_wp2_with fail
 refine(RD.out _).mono ?_
 rintro e w3 ⟨rfl,rfl⟩
 go_wp2_with fail
 obtain⟨k1,k2⟩:=NB.out.fin (.int .i64 x) (.int .u32 0) (.string ⟨#[]⟩) (.string ⟨#[]⟩)
 exact qhfo rfl rfl rfl rfl rfl rfl k1 ⟨rfl,k2⟩
theorem qur3(LK:∀W,Calls Tryz.prog 171 #[.int .i64 x] W fun e w'=>∃A m y z,e = .returned (.agg #[.int .i64 4,.slice A m m,.int .u32 y,.int .u32 z])∧Below W.heap.size W w')(h0:0 < s.size)(hx:(((s[0]'h0).toNat:Nat):Int)=x)(wx:IntKind.i64.wrap x=x){V k k1:Int}(hw:IntKind.u32.wrap V=V)(q3:(1:Int)≤(s.size:Int))(q4:IntKind.i64.wrap (1+k)=k1)(RD:∀W,Calls Tryz.prog 141 #[.string (s.extract 1 s.size)] W fun e w'=>e = .returned (.tuple #[.int .i64 V,.int .i64 k,.int .i64 0])∧W=w')(w:World) :
 Calls Tryz.prog 143 #[.string s] w fun e w'=>e = .returned (.tuple #[.agg #[.int .i64 x,.int .u32 V,.string ⟨#[]⟩,.string ⟨#[]⟩],.int .i64 k1,.int .i64 0])∧Below w.heap.size w w':=by
 have LK:=Lib.hid LK
 have RD:=Lib.hid RD
 have g0:(0:Int) < (s.size:Int):=by omega
 have e0:¬s=ByteArray.empty:=fun e=>by rw[e] at h0;exact absurd h0 (by decide)
 obtain⟨PH1,RH1,BH⟩:=qq1t w x
 go_enter Tryz.func143,Tryz.ntmps143
 go_wp2_with fail
 refine(LK.out _).mono ?_
 rintro e w2 ⟨A,m,y,z,rfl,hb⟩
 have RQ:=Lib.hid ((hb.block w.heap.size (lt_of_block RH1.out)).trans RH1.out)
 have PQ:=Lib.hid ((hb.block (w.heap.size+1) (lt_of_block PH1.out)).trans PH1.out)
 have NB:=Lib.hid (show NtB w w2 from⟨BH.out.trans (hb.mono BH.out.size),RQ.out⟩)
 have F0:=qkrp 4 A m m y z
 clear hb
 obtain⟨r0,rf0,r1,rf1,r2,rf2,r3,rf3,p0,pf0,p1,pf1,p2,pf2,p3,pf3⟩:=qv0q RQ.out PQ.out
 go_wp2_with fail
 refine(RD.out _).mono ?_
 rintro e w3 ⟨rfl,rfl⟩
 go_wp2_with fail
 obtain⟨k1,k2⟩:=(NB.out.setP 1 (.int .u32 V)).fin (.int .i64 x) (.int .u32 V) (.string ⟨#[]⟩) (.string ⟨#[]⟩)
 exact qhfo rfl rfl rfl rfl rfl rfl k1 ⟨rfl,k2⟩
theorem qu2k(LK:∀W,Calls Tryz.prog 171 #[.int .i64 x] W fun e w'=>∃A m y z,e = .returned (.agg #[.int .i64 5,.slice A m m,.int .u32 y,.int .u32 z])∧Below W.heap.size W w')(h0:0 < s.size)(hx:(((s[0]'h0).toNat:Nat):Int)=x)(wx:IntKind.i64.wrap x=x){T:ByteArray}{k z:Int}{bz:Bool}(hz:(z==0)=bz)(TT:∀W,Calls Tryz.prog 172 #[.string s,.int .i64 1,.int .i64 5] W fun e w'=>e = .returned (.tuple #[.string T,.int .i64 k,.int .i64 z])∧w'=W)(w:World) :
 Calls Tryz.prog 143 #[.string s] w fun e w'=>e = .returned (.tuple #[.agg #[.int .i64 x,.int .u32 0,.string T,.string ⟨#[]⟩],.int .i64 k,.int .i64 z])∧Below w.heap.size w w':=by
 have LK:=Lib.hid LK
 have TT:=Lib.hid TT
 have g0:(0:Int) < (s.size:Int):=by omega
 have e0:¬s=ByteArray.empty:=fun e=>by rw[e] at h0;exact absurd h0 (by decide)
 obtain⟨PH1,RH1,BH⟩:=qq1t w x
 go_enter Tryz.func143,Tryz.ntmps143
 go_wp2_with fail
 refine(LK.out _).mono ?_
 rintro e w2 ⟨A,m,y,z,rfl,hb⟩
 have RQ:=Lib.hid ((hb.block w.heap.size (lt_of_block RH1.out)).trans RH1.out)
 have PQ:=Lib.hid ((hb.block (w.heap.size+1) (lt_of_block PH1.out)).trans PH1.out)
 have NB:=Lib.hid (show NtB w w2 from⟨BH.out.trans (hb.mono BH.out.size),RQ.out⟩)
 have F0:=qkrp 5 A m m y z
 clear hb
 obtain⟨r0,rf0,r1,rf1,r2,rf2,r3,rf3,p0,pf0,p1,pf1,p2,pf2,p3,pf3⟩:=qv0q RQ.out PQ.out
 cases bz<;>
 ·go_wp2_with fail
  refine(TT.out _).mono ?_
  rintro e w3 ⟨rfl,rfl⟩
  go_wp2_with fail
  obtain⟨k1,k2⟩:=(NB.out.setP 2 (.string T)).fin (.int .i64 x) (.int .u32 0) (.string T) (.string ⟨#[]⟩)
  exact qhfo rfl rfl rfl rfl rfl rfl k1 ⟨rfl,k2⟩
theorem q4qj(LK:∀W,Calls Tryz.prog 171 #[.int .i64 x] W fun e w'=>∃A m y z,e = .returned (.agg #[.int .i64 6,.slice A m m,.int .u32 y,.int .u32 z])∧Below W.heap.size W w')(h0:0 < s.size)(hx:(((s[0]'h0).toNat:Nat):Int)=x)(wx:IntKind.i64.wrap x=x){T:ByteArray}{k z:Int}{bz:Bool}(hz:(z==0)=bz)(TT:∀W,Calls Tryz.prog 172 #[.string s,.int .i64 1,.int .i64 6] W fun e w'=>e = .returned (.tuple #[.string T,.int .i64 k,.int .i64 z])∧w'=W)(w:World) :
 Calls Tryz.prog 143 #[.string s] w fun e w'=>e = .returned (.tuple #[.agg #[.int .i64 x,.int .u32 0,.string T,.string ⟨#[]⟩],.int .i64 k,.int .i64 z])∧Below w.heap.size w w':=by
 have LK:=Lib.hid LK
 have TT:=Lib.hid TT
 have g0:(0:Int) < (s.size:Int):=by omega
 have e0:¬s=ByteArray.empty:=fun e=>by rw[e] at h0;exact absurd h0 (by decide)
 obtain⟨PH1,RH1,BH⟩:=qq1t w x
 go_enter Tryz.func143,Tryz.ntmps143
 go_wp2_with fail
 refine(LK.out _).mono ?_
 rintro e w2 ⟨A,m,y,z,rfl,hb⟩
 have RQ:=Lib.hid ((hb.block w.heap.size (lt_of_block RH1.out)).trans RH1.out)
 have PQ:=Lib.hid ((hb.block (w.heap.size+1) (lt_of_block PH1.out)).trans PH1.out)
 have NB:=Lib.hid (show NtB w w2 from⟨BH.out.trans (hb.mono BH.out.size),RQ.out⟩)
 have F0:=qkrp 6 A m m y z
 clear hb
 obtain⟨r0,rf0,r1,rf1,r2,rf2,r3,rf3,p0,pf0,p1,pf1,p2,pf2,p3,pf3⟩:=qv0q RQ.out PQ.out
 cases bz<;>
 ·go_wp2_with fail
  refine(TT.out _).mono ?_
  rintro e w3 ⟨rfl,rfl⟩
  go_wp2_with fail
  obtain⟨k1,k2⟩:=(NB.out.setP 2 (.string T)).fin (.int .i64 x) (.int .u32 0) (.string T) (.string ⟨#[]⟩)
  exact qhfo rfl rfl rfl rfl rfl rfl k1 ⟨rfl,k2⟩
theorem qyei(LK:∀W,Calls Tryz.prog 171 #[.int .i64 x] W fun e w'=>∃A m y z,e = .returned (.agg #[.int .i64 7,.slice A m m,.int .u32 y,.int .u32 z])∧Below W.heap.size W w')(h0:0 < s.size)(hx:(((s[0]'h0).toNat:Nat):Int)=x)(wx:IntKind.i64.wrap x=x){T:ByteArray}{k z:Int}(hz:(z==0)=false)(TT:∀W,Calls Tryz.prog 172 #[.string s,.int .i64 1,.int .i64 7] W fun e w'=>e = .returned (.tuple #[.string T,.int .i64 k,.int .i64 z])∧w'=W)(w:World) :
 Calls Tryz.prog 143 #[.string s] w fun e w'=>e = .returned (.tuple #[.agg #[.int .i64 x,.int .u32 0,.string T,.string ⟨#[]⟩],.int .i64 k,.int .i64 z])∧Below w.heap.size w w':=by
 have LK:=Lib.hid LK
 have TT:=Lib.hid TT
 have g0:(0:Int) < (s.size:Int):=by omega
 have e0:¬s=ByteArray.empty:=fun e=>by rw[e] at h0;exact absurd h0 (by decide)
 obtain⟨PH1,RH1,BH⟩:=qq1t w x
 go_enter Tryz.func143,Tryz.ntmps143
 go_wp2_with fail
 refine(LK.out _).mono ?_
 rintro e w2 ⟨A,m,y,z,rfl,hb⟩
 have RQ:=Lib.hid ((hb.block w.heap.size (lt_of_block RH1.out)).trans RH1.out)
 have PQ:=Lib.hid ((hb.block (w.heap.size+1) (lt_of_block PH1.out)).trans PH1.out)
 have NB:=Lib.hid (show NtB w w2 from⟨BH.out.trans (hb.mono BH.out.size),RQ.out⟩)
 have F0:=qkrp 7 A m m y z
 clear hb
 obtain⟨r0,rf0,r1,rf1,r2,rf2,r3,rf3,p0,pf0,p1,pf1,p2,pf2,p3,pf3⟩:=qv0q RQ.out PQ.out
 go_wp2_with fail
 refine(TT.out _).mono ?_
 rintro e w3 ⟨rfl,rfl⟩
 go_wp2_with fail
 obtain⟨k1,k2⟩:=(NB.out.setP 2 (.string T)).fin (.int .i64 x) (.int .u32 0) (.string T) (.string ⟨#[]⟩)
 exact qhfo rfl rfl rfl rfl rfl rfl k1 ⟨rfl,k2⟩
theorem quzf(LK:∀W,Calls Tryz.prog 171 #[.int .i64 x] W fun e w'=>∃A m y z,e = .returned (.agg #[.int .i64 7,.slice A m m,.int .u32 y,.int .u32 z])∧Below W.heap.size W w')(h0:0 < s.size)(hx:(((s[0]'h0).toNat:Nat):Int)=x)(wx:IntKind.i64.wrap x=x){T U:ByteArray}{k j z:Int}(TT:∀W,Calls Tryz.prog 172 #[.string s,.int .i64 1,.int .i64 7] W fun e w'=>e = .returned (.tuple #[.string T,.int .i64 k,.int .i64 0])∧w'=W)(TU:∀W,Calls Tryz.prog 172 #[.string s,.int .i64 k,.int .i64 7] W fun e w'=>e = .returned (.tuple #[.string U,.int .i64 j,.int .i64 z])∧w'=W)(w:World) :
 Calls Tryz.prog 143 #[.string s] w fun e w'=>e = .returned (.tuple #[.agg #[.int .i64 x,.int .u32 0,.string T,.string U],.int .i64 j,.int .i64 z])∧Below w.heap.size w w':=by
 have LK:=Lib.hid LK
 have TT:=Lib.hid TT
 have TU:=Lib.hid TU
 have g0:(0:Int) < (s.size:Int):=by omega
 have e0:¬s=ByteArray.empty:=fun e=>by rw[e] at h0;exact absurd h0 (by decide)
 obtain⟨PH1,RH1,BH⟩:=qq1t w x
 go_enter Tryz.func143,Tryz.ntmps143
 go_wp2_with fail
 refine(LK.out _).mono ?_
 rintro e w2 ⟨A,m,y,z,rfl,hb⟩
 have RQ:=Lib.hid ((hb.block w.heap.size (lt_of_block RH1.out)).trans RH1.out)
 have PQ:=Lib.hid ((hb.block (w.heap.size+1) (lt_of_block PH1.out)).trans PH1.out)
 have NB:=Lib.hid (show NtB w w2 from⟨BH.out.trans (hb.mono BH.out.size),RQ.out⟩)
 have F0:=qkrp 7 A m m y z
 clear hb
 obtain⟨r0,rf0,r1,rf1,r2,rf2,r3,rf3,p0,pf0,p1,pf1,p2,pf2,p3,pf3⟩:=qv0q RQ.out PQ.out
 go_wp2_with fail
 refine(TT.out _).mono ?_
 rintro e w3 ⟨rfl,rfl⟩
 go_wp2_with fail
 refine(TU.out _).mono ?_
 rintro e w3 ⟨rfl,rfl⟩
 go_wp2_with fail
 obtain⟨k1,k2⟩:=((NB.out.setP 2 (.string T)).setP 3 (.string U)).fin (.int .i64 x) (.int .u32 0) (.string T) (.string U)
 exact qhfo rfl rfl rfl rfl rfl rfl k1 ⟨rfl,k2⟩
end
theorem qjai(d:Bool)(r:List UInt8):(q91e d r).2.1≤r.length:=by
 have h:=(q3gm r).1
 rcases q7jb d r with ⟨_,h2⟩ | ⟨_,_,_,h2⟩ | ⟨_,_,h2⟩
 ·rw[h2];exact Nat.zero_le _
 ·rw[h2];exact Nat.zero_le _
 ·rw[h2];exact h
def NtP(w:World)(x:UInt8)(r:List UInt8)(e:Ending)(W:World):Prop:=
 ∃(p:Pr) (n:Int) (E:Nat),e = .returned (.tuple #[qbhk p,.int .i64 n,.int .i64 (E:Nat)])∧Below w.heap.size w W∧E=(qij7 x.toNat r).2.2∧(E=0→p=(qij7 x.toNat r).1∧n=((1+(qij7 x.toNat r).2.1:Nat):Int)∧(qij7 x.toNat r).2.1≤r.length)
theorem qvny(s:ByteArray)(x:UInt8)(r:List UInt8)(hx:s.data.toList=x::r)(hs:s.size≤70000)(h1:1≤qwgc x.toNat)(h7:qwgc x.toNat≤7)(w:World) :
 Calls Tryz.prog 143 #[.string s] w (NtP w x r):=by
 have hlen:s.size=r.length+1:=by rw[q4ad,hx,List.length_cons]
 have h0:0 < s.size:=by omega
 have hsx:s[0]'h0=x:=by
  have e:s.data.toList[0]? = some (s[0]'h0):=by rw[List.getElem?_eq_getElem (by rw[←q4ad];exact h0)];rfl
  rw[hx] at e
  exact(Option.some.inj e).symm
 have hxx:(((s[0]'h0).toNat:Nat):Int)=((x.toNat:Nat):Int):=by rw[hsx]
 have hlt:x.toNat < 256:=x.toNat_lt
 have wx:IntKind.i64.wrap ((x.toNat:Nat):Int)=((x.toNat:Nat):Int):=by simp only[IntKind.wrap_i64];omega
 have hd:s.data.toList.drop 1=r:=by rw[hx];rfl
 have LK:=fun W=>(q43i ((x.toNat:Nat):Int) W).mono (R':=fun e w'=>∃A m y z,e = .returned (.agg #[.int .i64 ((qwgc x.toNat:Nat):Int),.slice A m m,.int .u32 y,.int .u32 z])∧Below W.heap.size W w') (fun e w' ⟨A,h1,h2,_⟩=>⟨A,_,_,_,h1,h2⟩)
 have q1:IntKind.i64.wrap ((s.size:Int) - 1)=(r.length:Int):=by simp only[IntKind.wrap_i64];omega
 have q3:(1:Int)≤(s.size:Int):=by omega
 have numc:∀(c:Nat),c≤4→1≤c→qij7 x.toNat r=numP x.toNat c r→
  (r.length < c→Calls Tryz.prog 143 #[.string s] w fun e w'=>e = .returned (.tuple #[.agg #[.int .i64 x.toNat,.int .u32 0,.string ⟨#[]⟩,.string ⟨#[]⟩],.int .i64 0,.int .i64 5])∧Below w.heap.size w w')→
  (c≤r.length→Calls Tryz.prog 143 #[.string s] w fun e w'=>e = .returned (.tuple #[.agg #[.int .i64 x.toNat,.int .u32 (num (r.take c):Nat),.string ⟨#[]⟩,.string ⟨#[]⟩],.int .i64 ((c+1:Nat):Int),.int .i64 0])∧Below w.heap.size w w')→
  Calls Tryz.prog 143 #[.string s] w (NtP w x r):=by
  intro c hc hc1 hn hno hyes
  by_cases hl:r.length < c
  ·refine(hno hl).mono fun e W ⟨he,hb⟩=>⟨⟨x.toNat,0,[],[]⟩,0,5,he,hb,?_,fun h=>by cases h⟩
   rw[hn];unfold numP;rw[if_pos hl]
  ·refine(hyes (by omega)).mono fun e W ⟨he,hb⟩=>⟨⟨x.toNat,num (r.take c),[],[]⟩,_,0,he,hb,?_,fun _=>?_⟩
   ·rw[hn];unfold numP;rw[if_neg hl]
   ·rw[hn];unfold numP;rw[if_neg hl];exact⟨rfl,by rw[Nat.add_comm],by show c≤_;omega⟩
 have GT:∀(c:Nat),c≤4→c≤r.length→∀W,Calls Tryz.prog 93 #[.string (s.extract 1 (c+1))] W fun e w'=>e = .returned (.int .u64 (num (r.take c):Nat))∧W=w':=by
  intro c hc hl W
  have:=q2jg (s.extract 1 (c+1)) W (by simp;omega)
  rw[Nat.add_comm c 1] at this ⊢
  rw[qelx s 1 c (by omega) (by omega),hd] at this
  exact this
 have wr:∀(c:Nat),c≤4→IntKind.u32.wrap ((num (r.take c):Nat):Int)=((num (r.take c):Nat):Int):=by
  intro c hc
  have h1:=qn9h (r.take c)
  have h2:256^(r.take c).length≤256^4:=Nat.pow_le_pow_right (by decide) (by rw[List.length_take];omega)
  have h3:256^4=4294967296:=by decide
  simp only[IntKind.wrap_u32];omega
 have hh:qwgc x.toNat=1∨qwgc x.toNat=2∨qwgc x.toNat=3∨qwgc x.toNat=4∨qwgc x.toNat=5∨qwgc x.toNat=6∨qwgc x.toNat=7:=by omega
 rcases hh with e | e | e | e | e | e | e
 ·rw[e] at LK
  exact numc 1 (by decide) (by decide) (by unfold qij7;rw[if_pos e]) (fun hl=>qvsf LK h0 hxx wx q1 (by omega) w) (fun hl=>qb19 LK h0 hxx wx q1 (by omega) (by omega) (wr 1 (by decide)) (GT 1 (by decide) hl) w)
 ·rw[e] at LK
  exact numc 2 (by decide) (by decide) (by unfold qij7;rw[if_neg (by omega),if_pos e]) (fun hl=>q9m3 LK h0 hxx wx q1 (by omega) w) (fun hl=>q7q4 LK h0 hxx wx q1 (by omega) (by omega) (wr 2 (by decide)) (GT 2 (by decide) hl) w)
 ·rw[e] at LK
  exact numc 4 (by decide) (by decide) (by unfold qij7;rw[if_neg (by omega),if_neg (by omega),if_pos e]) (fun hl=>q4cs LK h0 hxx wx q1 (by omega) w) (fun hl=>qv8u LK h0 hxx wx q1 (by omega) (by omega) (wr 4 (by decide)) (GT 4 (by decide) hl) w)
 ·rw[e] at LK
  have hn:qij7 x.toNat r=if rdE r≠0 then(⟨x.toNat,0,[],[]⟩,0,5) else(⟨x.toNat,rdV r,[],[]⟩,rdN r,0):=by unfold qij7;rw[if_neg (by omega),if_neg (by omega),if_neg (by omega),if_pos e]
  have RD:=fun W=>qtpo (s.extract 1 s.size) W (by simp;omega)
  unfold qwlf q51h at RD
  rw[qh3u,hd] at RD
  obtain⟨b1,b2,b3⟩:=qips r
  by_cases hz:rdE r=0
  ·rw[hz] at RD
   refine(qur3 (V:=(rdV r:Nat)) (k:=(rdN r:Nat)) (k1:=((1+rdN r:Nat):Int)) LK h0 hxx wx (by simp only[IntKind.wrap_u32];omega) q3 (by simp only[IntKind.wrap_i64];omega) RD w).mono fun e W ⟨he,hb⟩=>⟨⟨x.toNat,rdV r,[],[]⟩,_,0,he,hb,?_,fun _=>?_⟩
   ·rw[hn,if_neg (by simp[hz])]
   ·rw[hn,if_neg (by simp[hz])];exact⟨rfl,rfl,b1⟩
  ·refine(qmk8 (V:=(rdV r:Nat)) (k:=(rdN r:Nat)) (z:=(rdE r:Nat)) LK h0 hxx wx (by rw[bne_iff_ne];omega) q3 RD w).mono fun e W ⟨he,hb⟩=>⟨⟨x.toNat,0,[],[]⟩,0,5,he,hb,?_,fun h=>by cases h⟩
   rw[hn,if_pos hz]
 ·rw[e] at LK
  have hn:qij7 x.toNat r=if (q91e false r).2.2≠0 then(⟨x.toNat,0,[],[]⟩,0,(q91e false r).2.2) else(⟨x.toNat,0,(q91e false r).1,[]⟩,(q91e false r).2.1,0):=by
   unfold qij7;rw[if_neg (by omega),if_neg (by omega),if_neg (by omega),if_neg (by omega),if_neg (by omega),e];rfl
  have TT:=fun W=>qs5r s 1 5 W hs (by omega) (by decide)
  rw[hd,show((5:Nat)==6)=false from rfl] at TT
  have tl:=qjai false r
  refine(qu2k (T:=bs (q91e false r).1) LK h0 hxx wx rfl TT w).mono fun e W ⟨he,hb⟩=>⟨⟨x.toNat,0,(q91e false r).1,[]⟩,_,(q91e false r).2.2,he,hb,?_,fun h=>?_⟩
  ·rw[hn];exact(qzpi _ _ _ _).symm
  ·rw[hn,h];exact⟨by rw[if_neg (by simp)],by rw[if_pos rfl,if_neg (by simp)],by rw[if_neg (by simp)];exact tl⟩
 ·rw[e] at LK
  have hn:qij7 x.toNat r=if (q91e true r).2.2≠0 then(⟨x.toNat,0,[],[]⟩,0,(q91e true r).2.2) else(⟨x.toNat,0,(q91e true r).1,[]⟩,(q91e true r).2.1,0):=by
   unfold qij7;rw[if_neg (by omega),if_neg (by omega),if_neg (by omega),if_neg (by omega),if_neg (by omega),e];rfl
  have TT:=fun W=>qs5r s 1 6 W hs (by omega) (by decide)
  rw[hd,show((6:Nat)==6)=true from rfl] at TT
  have tl:=qjai true r
  refine(q4qj (T:=bs (q91e true r).1) LK h0 hxx wx rfl TT w).mono fun e W ⟨he,hb⟩=>⟨⟨x.toNat,0,(q91e true r).1,[]⟩,_,(q91e true r).2.2,he,hb,?_,fun h=>?_⟩
  ·rw[hn];exact(qzpi _ _ _ _).symm
  ·rw[hn,h];exact⟨by rw[if_neg (by simp)],by rw[if_pos rfl,if_neg (by simp)],by rw[if_neg (by simp)];exact tl⟩
 ·rw[e] at LK
  have hn:qij7 x.toNat r=(if (q91e false r).2.2≠0 then(⟨x.toNat,0,[],[]⟩,0,(q91e false r).2.2)
   else if (q91e false (r.drop (q91e false r).2.1)).2.2≠0 then(⟨x.toNat,0,[],[]⟩,0,(q91e false (r.drop (q91e false r).2.1)).2.2)
   else(⟨x.toNat,0,(q91e false r).1,(q91e false (r.drop (q91e false r).2.1)).1⟩,(q91e false r).2.1+(q91e false (r.drop (q91e false r).2.1)).2.1,0)):=by
    unfold qij7;rw[if_neg (by omega),if_neg (by omega),if_neg (by omega),if_neg (by omega),if_pos e]
  have TT:=fun W=>qs5r s 1 7 W hs (by omega) (by decide)
  rw[hd,show((7:Nat)==6)=false from rfl] at TT
  have tl:=qjai false r
  by_cases hz:(q91e false r).2.2=0
  ·rw[hz,if_pos rfl] at TT
   rw[if_neg (by simp[hz])] at hn
   have TU:=fun W=>qs5r s (1+(q91e false r).2.1) 7 W hs (by omega) (by decide)
   rw[←List.drop_drop,hd,show((7:Nat)==6)=false from rfl] at TU
   have tu:=qjai false (r.drop (q91e false r).2.1)
   rw[List.length_drop] at tu
   refine(quzf (T:=bs (q91e false r).1) (U:=bs (q91e false (r.drop (q91e false r).2.1)).1) LK h0 hxx wx TT TU w).mono fun e W ⟨he,hb⟩=>⟨⟨x.toNat,0,(q91e false r).1,(q91e false (r.drop (q91e false r).2.1)).1⟩,_,(q91e false (r.drop (q91e false r).2.1)).2.2,he,hb,?_,fun h=>?_⟩
   ·rw[hn];exact(qzpi _ _ _ _).symm
   ·rw[hn,h];exact⟨by rw[if_neg (by simp)],by rw[if_pos rfl,if_neg (by simp)];show _=((1+(_+_):Nat):Int);rw[Nat.add_assoc],by rw[if_neg (by simp)];show _+_≤_;omega⟩
  ·rw[if_pos hz] at hn
   rw[if_neg hz] at TT
   refine(qyei (T:=bs (q91e false r).1) (z:=((q91e false r).2.2:Nat)) LK h0 hxx wx (by rw[beq_eq_false_iff_ne];omega) TT w).mono fun e W ⟨he,hb⟩=>⟨⟨x.toNat,0,(q91e false r).1,[]⟩,_,(q91e false r).2.2,he,hb,?_,fun h=>absurd h hz⟩
   rw[hn]
structure DnS(w:World)(cb:Nat)(s:ByteArray)(p:Pk)(a:Ad)(y:Cs)(W:World):Prop where
 gr:w.grownBy W (some cb)
 box:W.heap[w.heap.size]? = some (.cells (pkC p a) 29 (0,0))
 res:W.heap[w.heap.size+1]? = some (.cells pkZ 29 (0,0))
 cs:RsAt W cb s y
section
variable{w W W':World}{cb:Nat}{s:ByteArray}{x y:Cs}{p:Pk}{a:Ad}
theorem RsAt.err(h:RsAt W cb s x):W.cell? ⟨cb,2,none⟩=some (.int .i64 ((x.e:Nat):Int)):=by obtain⟨i,_,hc,_⟩:=h;exact hc.c2
theorem DnS.call(h:DnS w cb s p a x W)(hcb:cb < w.heap.size)(hg:W.grownBy W' (some cb))(hy:RsAt W' cb s y):DnS w cb s p a y W':=
 ⟨qo6d h.gr hg,(hg.block _ (lt_of_block h.box) (by intro e;cases e;omega)).trans h.box,(hg.block _ (lt_of_block h.res) (by intro e;cases e;omega)).trans h.res,hy⟩
theorem DnS.made(h:RsAt w cb s x):DnS w cb s p a x ((w.alloc (.cells (pkC p a) 29)).alloc (.cells pkZ 29)):=
 ⟨qo6d (World.grownBy_alloc _ _ _) (World.grownBy_alloc _ _ _),heap_alloc2_old _ _ _,heap_alloc2_new _ _ _,(h.below (qybm _)).below (qybm _)⟩
theorem DnS.zero(h:DnS w cb s p a x W)(hcb:cb < w.heap.size):DnS w cb s p a x (W.setRow (w.heap.size+1) pkZ):=
 ⟨qacl h.gr (by omega) _,(setRow_other _ _ _ _ (by omega)).trans h.box,setRow_heap _ _ _ _ _ _ h.res,h.cs.of_block (setRow_other _ _ _ _ (by omega))⟩
theorem qeyg(f:Nat)(hm:s.size≤9223372036854775807)(h:RsAt w cb s x) :
 Calls Tryz.prog 65 #[.pointer (some ⟨cb,0,none⟩),.agg (pkC p a),.int .i64 (f:Int)] w fun e w'=>e = .returned (.tuple #[.agg (if (qveh x f).e≠0 then pkZ else pkC p a),.int .i64 (((qveh x f).e:Nat):Int)])∧w.grownBy w' (some cb):=by
 have S0:=Lib.hid (DnS.made (p:=p) (a:=a) h)
 have CB:=Lib.hid h.lt
 have C1:=Lib.hid (qwmp p a)
 have P2:=Lib.hid (qmz0 p a)
 have HZ:=Lib.hid qbwp
 have ZO:pkZ.all (·.oneCell')=true:=qmz0 Pk.zero adZ
 have hzv:=qrai
 have hne:¬pkZ=#[]:=by intro h;have:=qbwp;rw[h] at this;cases this
 have LE:=fun W (h:RsAt W cb s x)=>q5u4 hm h
 have F5:=fun W (h:RsAt W cb s x)=>qw3h 5 h
 obtain⟨y,hy⟩:∃y,(if x.e=0∧x.r≠[] then x.fail 5 else x)=y:=⟨_,rfl⟩
 have FF:=fun W (h:RsAt W cb s y)=>qw3h f h
 unfold qveh
 rw[hy]
 obtain⟨z,hz⟩:∃z,y.fail f=z:=⟨_,rfl⟩
 rw[hz] at FF ⊢
 obtain⟨V,hV⟩:∃V,(if z.e≠0 then pkZ else pkC p a)=V:=⟨_,rfl⟩
 rw[hV]
 have HV:=Lib.hid hV
 clear hV
 have HY:=Lib.hid hy
 have LE:=Lib.hid LE
 have F5:=Lib.hid F5
 have FF:=Lib.hid FF
 have k2:((w.alloc (.cells (pkC p a) 29)).alloc (.cells pkZ 29)).cell? ⟨cb,2,none⟩=some (.int .i64 ((x.e:Nat):Int)):=S0.out.cs.err
 clear h hy hz
 go_enter Tryz.func65,Tryz.ntmps65
 go_upto_region 1 with fail
 generalize (w.alloc (.cells (pkC p a) 29)).alloc (.cells pkZ 29)=W at *
 have S1:=Lib.hid S0.out
 clear S0
 obtain⟨b,hb⟩:∃b,decide (x.e=0∧x.r≠[])=b:=⟨_,rfl⟩
 have HB:=Lib.hid hb
 clear hb
 go_cut [17] (fun s17 wx=>s17 = .bool b∧DnS w cb s p a x wx)
 case first=>
  by_cases he:x.e=0
  ·have hl2:decide (0 < x.r.length)=b:=by
    rw[←HB.out,decide_eq_decide]
    cases x.r<;>simp[he]
   rw[he] at k2
   generalize x.r.length=n at *
   have LE:=Lib.hid LE.out
   have HL2:=Lib.hid hl2
   clear he HY HB hl2
   go_wp2_with fail
   refine(LE.out _ S1.out.cs).mono ?_
   rintro e W2 ⟨rfl,hc,hg⟩
   have S2:=Lib.hid (S1.out.call CB.out hg hc)
   clear hc hg
   go_wp2_with fail
   go_meet
   exact⟨congrArg Value.bool HL2.out,S2.out⟩
  ·have HT:=Lib.hid (show false=b by rw[←HB.out,decide_eq_false (by simp[he])])
   have he2:(((x.e:Nat):Int)==0)=false:=by simp;omega
   clear he HY HB
   go_wp2_with fail
   go_meet
   exact⟨congrArg Value.bool HT.out,S1.out⟩
 case rest=>
  clear S1 k2 LE
  obtain⟨rfl,hS⟩:=hcut
  have S1:=Lib.hid hS
  clear hS
  go_upto_if 17 with fail
  go_cut [] (fun wx=>DnS w cb s p a y wx)
  case first=>
   cases b with
   | false=>
    have HT:=Lib.hid (show x=y by rw[←HY.out,if_neg (of_decide_eq_false HB.out)])
    clear HY HB
    go_wp2_with fail
    go_meet
    rw[←HT.out];exact S1.out
   | true=>
    have HT:=Lib.hid (show x.fail 5=y by rw[←HY.out,if_pos (of_decide_eq_true HB.out)])
    clear HY HB
    go_wp2_with fail
    refine(F5.out _ S1.out.cs).mono ?_
    rintro e W3 ⟨rfl,hc,hg⟩
    have S3:=Lib.hid (S1.out.call CB.out hg hc)
    clear hc hg
    go_wp2_with fail
    go_meet
    rw[←HT.out];exact S3.out
  case rest=>
   have S2:=Lib.hid hcut
   clear hcut S1 F5 HY HB
   go_wp2_with fail
   refine(FF.out _ S2.out.cs).mono ?_
   rintro e W3 ⟨rfl,hc,hg⟩
   have S3:=Lib.hid (S2.out.call CB.out hg hc)
   have k2:W3.cell? ⟨cb,2,none⟩=some (.int .i64 ((z.e:Nat):Int)):=hc.err
   have GB:=Lib.hid S3.out.box
   have GR:=Lib.hid S3.out.res
   clear hc hg FF S2
   by_cases hz:z.e=0
   ·have RT:=Lib.hid (show Ending.returned (.tuple #[.agg (pkC p a),.int .i64 0]) = .returned (.tuple #[.agg V,.int .i64 ((z.e:Nat):Int)]) by rw[←HV.out,if_neg (by simpa using hz),hz];rfl)
    rw[hz] at k2
    have LO:=Lib.hid (qacl S3.out.gr (show w.heap.size≤w.heap.size+1 by omega) (pkC p a))
    clear hz S3
    go_wp2_with (first
     | (refine wpList_load_row rfl _ _ rfl w.heap.size rfl 29 (pkC p a) (0,0) _ GB.out Tryz.underlying29 rfl (by rw[C1.out];exact q5nr) ?_)
     | (refine wpList_store_row rfl _ _ _ rfl (w.heap.size+1) (pkC p a) rfl rfl 29 _ GR.out (by rw[C1.out];exact q5nr) (by rw[HZ.out,C1.out]) P2.out ?_))
    exact q8iy (cs:=pkC p a) rfl rfl rfl rfl Tryz.underlying29 rfl (by rw[C1.out];exact q5nr) (setRow_heap _ _ _ _ _ _ GR.out) ⟨RT.out,LO.out⟩
   ·have RT:=Lib.hid (show Ending.returned (.tuple #[.agg pkZ,.int .i64 ((z.e:Nat):Int)]) = .returned (.tuple #[.agg V,.int .i64 ((z.e:Nat):Int)]) by rw[←HV.out,if_pos hz])
    have he2:(((z.e:Nat):Int)==0)=false:=by simp;omega
    have he3:(((z.e:Nat):Int) != 0)=true:=by simp;omega
    have LO:=Lib.hid (qacl S3.out.gr (show w.heap.size≤w.heap.size+1 by omega) pkZ)
    clear hz
    go_upto_region 5 with fail
    refine qy7c (T:=DnS w cb s p a z) (B:=w.heap.size+1) (cb:=cb) (z:=((z.e:Nat):Int)) ⟨S3.out.gr.trans ⟨rfl,rfl,rfl,Nat.le_refl _,fun _ _ _=>rfl⟩,S3.out.box,S3.out.res,S3.out.cs⟩ (fun W h=>h.cs.err) (fun W h=>h.res) (fun W h=>h.zero CB.out) ?_
    intro W h
    have GR:=Lib.hid h.res
    have LO:=Lib.hid h.gr
    clear h
    go_wp2_with fail
    exact q8iy (cs:=pkZ) rfl rfl rfl rfl Tryz.underlying29 rfl (by rw[HZ.out];exact q5nr) GR.out ⟨RT.out,LO.out⟩
end
end Go.Proofs.YtbecggefmbpnoaaGreatDoor
