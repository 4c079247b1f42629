/- The contracts of polyglotref05.value and body, at properties that are valid. Condition: as many as a list may have. -/
import Derived.Deep.RegionHeld3
import Derived.Deep.LoopGhost
import Derived.Test.YtaahhbjnflimnaaGreatK24
import Derived.Test.YtaahhbjnflimnaaGreatK41
import Derived.Test.YtaahhbjnflimnaaGreatK27
import Derived.Test.YtaahhbjnflimnaaGreatK37
import Derived.Test.YtaahhbjnflimnaaGreatK39
import Derived.Test.YtaahhbjnflimnaaGreatK14
import Derived.Test.YtaahhbjnflimnaaGreatK40
import Derived.Test.YtaahhbjnflimnaaGreatK08
set_option maxRecDepth 100000
set_option maxHeartbeats 4000000
namespace Go.Proofs.YtaahhbjnflimnaaGreat
open Go.RowKit
section
variable{id n:Int}{st sv:ByteArray}
theorem q0sc(LK:∀W,Calls Tryz.prog 211 #[.int .i64 id] W fun e w'=>∃A m x y,e = .returned (.agg #[.int .i64 1,.slice A m m,.int .u32 x,.int .u32 y])∧Below W.heap.size W w')(hw:IntKind.u64.wrap n=n){R:ByteArray}(PU:∀W,Calls Tryz.prog 48 #[.int .u64 n,.int .i64 1] W fun e w'=>e = .returned (.string R)∧Below W.heap.size W w')(w:World) :
 Calls Tryz.prog 205 #[.agg #[.int .i64 id,.int .u32 n,.string st,.string sv]] w fun e w'=>e = .returned (.string R)∧Below w.heap.size w w':=by
 have hb0:=heap_alloc_new w (.cells #[.int .i64 id,.int .u32 n,.string st,.string sv] 46)
 have hB0:Below w.heap.size w (w.alloc (.cells #[.int .i64 id,.int .u32 n,.string st,.string sv] 46)):=(Below.refl _ _).alloc (Nat.le_refl _) _
 have LK:=Lib.hid LK
 have PU:=Lib.hid PU
 have P0:=Lib.hid hb0
 have B0:=Lib.hid hB0
 have c0:=cell_of_row _ w.heap.size 0 _ _ _ hb0
 clear hb0 hB0
 go_enter Tryz.func205,Tryz.ntmps205
 go_wp2_with fail
 refine(LK.out _).mono ?_
 rintro e w1 ⟨A,m,x,y,rfl,hb⟩
 have P:=Lib.hid ((hb.block w.heap.size (by rw[World.size_alloc];omega)).trans P0.out)
 have B:=Lib.hid (B0.out.trans (hb.mono B0.out.size))
 have F0:=qkrp 1 A m m x y
 clear hb c0
 have c0:=cell_of_row _ w.heap.size 0 _ _ _ P.out
 have c1:=cell_of_row _ w.heap.size 1 _ _ _ P.out
 have c2:=cell_of_row _ w.heap.size 2 _ _ _ P.out
 have c3:=cell_of_row _ w.heap.size 3 _ _ _ P.out
 go_wp2_with fail
 refine(PU.out _).mono ?_
 rintro e w2 ⟨rfl,hb⟩
 have P:=Lib.hid ((hb.block w.heap.size (lt_of_block P.out)).trans P.out)
 have B:=Lib.hid (B.out.trans (hb.mono B.out.size))
 clear hb c0 c1 c2 c3
 have c0:=cell_of_row _ w.heap.size 0 _ _ _ P.out
 have c1:=cell_of_row _ w.heap.size 1 _ _ _ P.out
 have c2:=cell_of_row _ w.heap.size 2 _ _ _ P.out
 have c3:=cell_of_row _ w.heap.size 3 _ _ _ P.out
 go_wp2_with fail
 go_ret
 exact⟨rfl,B.out⟩
theorem qqo9(LK:∀W,Calls Tryz.prog 211 #[.int .i64 id] W fun e w'=>∃A m x y,e = .returned (.agg #[.int .i64 2,.slice A m m,.int .u32 x,.int .u32 y])∧Below W.heap.size W w')(hw:IntKind.u64.wrap n=n){R:ByteArray}(PU:∀W,Calls Tryz.prog 48 #[.int .u64 n,.int .i64 2] W fun e w'=>e = .returned (.string R)∧Below W.heap.size W w')(w:World) :
 Calls Tryz.prog 205 #[.agg #[.int .i64 id,.int .u32 n,.string st,.string sv]] w fun e w'=>e = .returned (.string R)∧Below w.heap.size w w':=by
 have hb0:=heap_alloc_new w (.cells #[.int .i64 id,.int .u32 n,.string st,.string sv] 46)
 have hB0:Below w.heap.size w (w.alloc (.cells #[.int .i64 id,.int .u32 n,.string st,.string sv] 46)):=(Below.refl _ _).alloc (Nat.le_refl _) _
 have LK:=Lib.hid LK
 have PU:=Lib.hid PU
 have P0:=Lib.hid hb0
 have B0:=Lib.hid hB0
 have c0:=cell_of_row _ w.heap.size 0 _ _ _ hb0
 clear hb0 hB0
 go_enter Tryz.func205,Tryz.ntmps205
 go_wp2_with fail
 refine(LK.out _).mono ?_
 rintro e w1 ⟨A,m,x,y,rfl,hb⟩
 have P:=Lib.hid ((hb.block w.heap.size (by rw[World.size_alloc];omega)).trans P0.out)
 have B:=Lib.hid (B0.out.trans (hb.mono B0.out.size))
 have F0:=qkrp 2 A m m x y
 clear hb c0
 have c0:=cell_of_row _ w.heap.size 0 _ _ _ P.out
 have c1:=cell_of_row _ w.heap.size 1 _ _ _ P.out
 have c2:=cell_of_row _ w.heap.size 2 _ _ _ P.out
 have c3:=cell_of_row _ w.heap.size 3 _ _ _ P.out
 go_wp2_with fail
 refine(PU.out _).mono ?_
 rintro e w2 ⟨rfl,hb⟩
 have P:=Lib.hid ((hb.block w.heap.size (lt_of_block P.out)).trans P.out)
 have B:=Lib.hid (B.out.trans (hb.mono B.out.size))
 clear hb c0 c1 c2 c3
 have c0:=cell_of_row _ w.heap.size 0 _ _ _ P.out
 have c1:=cell_of_row _ w.heap.size 1 _ _ _ P.out
 have c2:=cell_of_row _ w.heap.size 2 _ _ _ P.out
 have c3:=cell_of_row _ w.heap.size 3 _ _ _ P.out
 go_wp2_with fail
 go_ret
 exact⟨rfl,B.out⟩
theorem qwbv(LK:∀W,Calls Tryz.prog 211 #[.int .i64 id] W fun e w'=>∃A m x y,e = .returned (.agg #[.int .i64 3,.slice A m m,.int .u32 x,.int .u32 y])∧Below W.heap.size W w')(hw:IntKind.u64.wrap n=n){R:ByteArray}(PU:∀W,Calls Tryz.prog 48 #[.int .u64 n,.int .i64 4] W fun e w'=>e = .returned (.string R)∧Below W.heap.size W w')(w:World) :
 Calls Tryz.prog 205 #[.agg #[.int .i64 id,.int .u32 n,.string st,.string sv]] w fun e w'=>e = .returned (.string R)∧Below w.heap.size w w':=by
 have hb0:=heap_alloc_new w (.cells #[.int .i64 id,.int .u32 n,.string st,.string sv] 46)
 have hB0:Below w.heap.size w (w.alloc (.cells #[.int .i64 id,.int .u32 n,.string st,.string sv] 46)):=(Below.refl _ _).alloc (Nat.le_refl _) _
 have LK:=Lib.hid LK
 have PU:=Lib.hid PU
 have P0:=Lib.hid hb0
 have B0:=Lib.hid hB0
 have c0:=cell_of_row _ w.heap.size 0 _ _ _ hb0
 clear hb0 hB0
 go_enter Tryz.func205,Tryz.ntmps205
 go_wp2_with fail
 refine(LK.out _).mono ?_
 rintro e w1 ⟨A,m,x,y,rfl,hb⟩
 have P:=Lib.hid ((hb.block w.heap.size (by rw[World.size_alloc];omega)).trans P0.out)
 have B:=Lib.hid (B0.out.trans (hb.mono B0.out.size))
 have F0:=qkrp 3 A m m x y
 clear hb c0
 have c0:=cell_of_row _ w.heap.size 0 _ _ _ P.out
 have c1:=cell_of_row _ w.heap.size 1 _ _ _ P.out
 have c2:=cell_of_row _ w.heap.size 2 _ _ _ P.out
 have c3:=cell_of_row _ w.heap.size 3 _ _ _ P.out
 go_wp2_with fail
 refine(PU.out _).mono ?_
 rintro e w2 ⟨rfl,hb⟩
 have P:=Lib.hid ((hb.block w.heap.size (lt_of_block P.out)).trans P.out)
 have B:=Lib.hid (B.out.trans (hb.mono B.out.size))
 clear hb c0 c1 c2 c3
 have c0:=cell_of_row _ w.heap.size 0 _ _ _ P.out
 have c1:=cell_of_row _ w.heap.size 1 _ _ _ P.out
 have c2:=cell_of_row _ w.heap.size 2 _ _ _ P.out
 have c3:=cell_of_row _ w.heap.size 3 _ _ _ P.out
 go_wp2_with fail
 go_ret
 exact⟨rfl,B.out⟩
theorem qbt6(LK:∀W,Calls Tryz.prog 211 #[.int .i64 id] W fun e w'=>∃A m x y,e = .returned (.agg #[.int .i64 4,.slice A m m,.int .u32 x,.int .u32 y])∧Below W.heap.size W w')(hw:IntKind.i64.wrap n=n){R:ByteArray}{z:Int}(PU:∀W,Calls Tryz.prog 167 #[.int .i64 n] W fun e w'=>e = .returned (.tuple #[.string R,.int .i64 z])∧Below W.heap.size W w')(w:World) :
 Calls Tryz.prog 205 #[.agg #[.int .i64 id,.int .u32 n,.string st,.string sv]] w fun e w'=>e = .returned (.string R)∧Below w.heap.size w w':=by
 have hb0:=heap_alloc_new w (.cells #[.int .i64 id,.int .u32 n,.string st,.string sv] 46)
 have hB0:Below w.heap.size w (w.alloc (.cells #[.int .i64 id,.int .u32 n,.string st,.string sv] 46)):=(Below.refl _ _).alloc (Nat.le_refl _) _
 have LK:=Lib.hid LK
 have PU:=Lib.hid PU
 have P0:=Lib.hid hb0
 have B0:=Lib.hid hB0
 have c0:=cell_of_row _ w.heap.size 0 _ _ _ hb0
 clear hb0 hB0
 go_enter Tryz.func205,Tryz.ntmps205
 go_wp2_with fail
 refine(LK.out _).mono ?_
 rintro e w1 ⟨A,m,x,y,rfl,hb⟩
 have P:=Lib.hid ((hb.block w.heap.size (by rw[World.size_alloc];omega)).trans P0.out)
 have B:=Lib.hid (B0.out.trans (hb.mono B0.out.size))
 have F0:=qkrp 4 A m m x y
 clear hb c0
 have c0:=cell_of_row _ w.heap.size 0 _ _ _ P.out
 have c1:=cell_of_row _ w.heap.size 1 _ _ _ P.out
 have c2:=cell_of_row _ w.heap.size 2 _ _ _ P.out
 have c3:=cell_of_row _ w.heap.size 3 _ _ _ P.out
 go_wp2_with fail
 refine(PU.out _).mono ?_
 rintro e w2 ⟨rfl,hb⟩
 have P:=Lib.hid ((hb.block w.heap.size (lt_of_block P.out)).trans P.out)
 have B:=Lib.hid (B.out.trans (hb.mono B.out.size))
 clear hb c0 c1 c2 c3
 have c0:=cell_of_row _ w.heap.size 0 _ _ _ P.out
 have c1:=cell_of_row _ w.heap.size 1 _ _ _ P.out
 have c2:=cell_of_row _ w.heap.size 2 _ _ _ P.out
 have c3:=cell_of_row _ w.heap.size 3 _ _ _ P.out
 go_wp2_with fail
 go_ret
 exact⟨rfl,B.out⟩
theorem q9o4(LK:∀W,Calls Tryz.prog 211 #[.int .i64 id] W fun e w'=>∃A m x y,e = .returned (.agg #[.int .i64 5,.slice A m m,.int .u32 x,.int .u32 y])∧Below W.heap.size W w'){R:ByteArray}{z:Int}(BT:∀W,Calls Tryz.prog 113 #[.string st] W fun e w'=>e = .returned (.tuple #[.string R,.int .i64 z])∧Below W.heap.size W w')(w:World) :
 Calls Tryz.prog 205 #[.agg #[.int .i64 id,.int .u32 n,.string st,.string sv]] w fun e w'=>e = .returned (.string R)∧Below w.heap.size w w':=by
 have hb0:=heap_alloc_new w (.cells #[.int .i64 id,.int .u32 n,.string st,.string sv] 46)
 have hB0:Below w.heap.size w (w.alloc (.cells #[.int .i64 id,.int .u32 n,.string st,.string sv] 46)):=(Below.refl _ _).alloc (Nat.le_refl _) _
 have LK:=Lib.hid LK
 have BT:=Lib.hid BT
 have P0:=Lib.hid hb0
 have B0:=Lib.hid hB0
 have c0:=cell_of_row _ w.heap.size 0 _ _ _ hb0
 clear hb0 hB0
 go_enter Tryz.func205,Tryz.ntmps205
 go_wp2_with fail
 refine(LK.out _).mono ?_
 rintro e w1 ⟨A,m,x,y,rfl,hb⟩
 have P:=Lib.hid ((hb.block w.heap.size (by rw[World.size_alloc];omega)).trans P0.out)
 have B:=Lib.hid (B0.out.trans (hb.mono B0.out.size))
 have F0:=qkrp 5 A m m x y
 clear hb c0
 have c0:=cell_of_row _ w.heap.size 0 _ _ _ P.out
 have c1:=cell_of_row _ w.heap.size 1 _ _ _ P.out
 have c2:=cell_of_row _ w.heap.size 2 _ _ _ P.out
 have c3:=cell_of_row _ w.heap.size 3 _ _ _ P.out
 go_wp2_with fail
 refine(BT.out _).mono ?_
 rintro e w2 ⟨rfl,hb⟩
 have P:=Lib.hid ((hb.block w.heap.size (lt_of_block P.out)).trans P.out)
 have B:=Lib.hid (B.out.trans (hb.mono B.out.size))
 clear hb c0 c1 c2 c3
 have c0:=cell_of_row _ w.heap.size 0 _ _ _ P.out
 have c1:=cell_of_row _ w.heap.size 1 _ _ _ P.out
 have c2:=cell_of_row _ w.heap.size 2 _ _ _ P.out
 have c3:=cell_of_row _ w.heap.size 3 _ _ _ P.out
 go_wp2_with fail
 refine(LK.out _).mono ?_
 rintro e w3 ⟨A,m,x,y,rfl,hb⟩
 have F0:=qkrp 5 A m m x y
 have P:=Lib.hid ((hb.block w.heap.size (lt_of_block P.out)).trans P.out)
 have B:=Lib.hid (B.out.trans (hb.mono B.out.size))
 clear hb c0 c1 c2 c3
 have c0:=cell_of_row _ w.heap.size 0 _ _ _ P.out
 have c1:=cell_of_row _ w.heap.size 1 _ _ _ P.out
 have c2:=cell_of_row _ w.heap.size 2 _ _ _ P.out
 have c3:=cell_of_row _ w.heap.size 3 _ _ _ P.out
 go_wp2_with fail
 go_ret
 exact⟨rfl,B.out⟩
theorem qfll(LK:∀W,Calls Tryz.prog 211 #[.int .i64 id] W fun e w'=>∃A m x y,e = .returned (.agg #[.int .i64 6,.slice A m m,.int .u32 x,.int .u32 y])∧Below W.heap.size W w'){R:ByteArray}{z:Int}(BT:∀W,Calls Tryz.prog 113 #[.string st] W fun e w'=>e = .returned (.tuple #[.string R,.int .i64 z])∧Below W.heap.size W w')(w:World) :
 Calls Tryz.prog 205 #[.agg #[.int .i64 id,.int .u32 n,.string st,.string sv]] w fun e w'=>e = .returned (.string R)∧Below w.heap.size w w':=by
 have hb0:=heap_alloc_new w (.cells #[.int .i64 id,.int .u32 n,.string st,.string sv] 46)
 have hB0:Below w.heap.size w (w.alloc (.cells #[.int .i64 id,.int .u32 n,.string st,.string sv] 46)):=(Below.refl _ _).alloc (Nat.le_refl _) _
 have LK:=Lib.hid LK
 have BT:=Lib.hid BT
 have P0:=Lib.hid hb0
 have B0:=Lib.hid hB0
 have c0:=cell_of_row _ w.heap.size 0 _ _ _ hb0
 clear hb0 hB0
 go_enter Tryz.func205,Tryz.ntmps205
 go_wp2_with fail
 refine(LK.out _).mono ?_
 rintro e w1 ⟨A,m,x,y,rfl,hb⟩
 have P:=Lib.hid ((hb.block w.heap.size (by rw[World.size_alloc];omega)).trans P0.out)
 have B:=Lib.hid (B0.out.trans (hb.mono B0.out.size))
 have F0:=qkrp 6 A m m x y
 clear hb c0
 have c0:=cell_of_row _ w.heap.size 0 _ _ _ P.out
 have c1:=cell_of_row _ w.heap.size 1 _ _ _ P.out
 have c2:=cell_of_row _ w.heap.size 2 _ _ _ P.out
 have c3:=cell_of_row _ w.heap.size 3 _ _ _ P.out
 go_wp2_with fail
 refine(BT.out _).mono ?_
 rintro e w2 ⟨rfl,hb⟩
 have P:=Lib.hid ((hb.block w.heap.size (lt_of_block P.out)).trans P.out)
 have B:=Lib.hid (B.out.trans (hb.mono B.out.size))
 clear hb c0 c1 c2 c3
 have c0:=cell_of_row _ w.heap.size 0 _ _ _ P.out
 have c1:=cell_of_row _ w.heap.size 1 _ _ _ P.out
 have c2:=cell_of_row _ w.heap.size 2 _ _ _ P.out
 have c3:=cell_of_row _ w.heap.size 3 _ _ _ P.out
 go_wp2_with fail
 refine(LK.out _).mono ?_
 rintro e w3 ⟨A,m,x,y,rfl,hb⟩
 have F0:=qkrp 6 A m m x y
 have P:=Lib.hid ((hb.block w.heap.size (lt_of_block P.out)).trans P.out)
 have B:=Lib.hid (B.out.trans (hb.mono B.out.size))
 clear hb c0 c1 c2 c3
 have c0:=cell_of_row _ w.heap.size 0 _ _ _ P.out
 have c1:=cell_of_row _ w.heap.size 1 _ _ _ P.out
 have c2:=cell_of_row _ w.heap.size 2 _ _ _ P.out
 have c3:=cell_of_row _ w.heap.size 3 _ _ _ P.out
 go_wp2_with fail
 go_ret
 exact⟨rfl,B.out⟩
theorem q5gg(LK:∀W,Calls Tryz.prog 211 #[.int .i64 id] W fun e w'=>∃A m x y,e = .returned (.agg #[.int .i64 7,.slice A m m,.int .u32 x,.int .u32 y])∧Below W.heap.size W w'){R:ByteArray}{z:Int}(BT:∀W,Calls Tryz.prog 113 #[.string st] W fun e w'=>e = .returned (.tuple #[.string R,.int .i64 z])∧Below W.heap.size W w'){R2:ByteArray}{z2:Int}(BV:∀W,Calls Tryz.prog 113 #[.string sv] W fun e w'=>e = .returned (.tuple #[.string R2,.int .i64 z2])∧Below W.heap.size W w')(hnl:¬9223372036854775807 < R.size+R2.size)(w:World) :
 Calls Tryz.prog 205 #[.agg #[.int .i64 id,.int .u32 n,.string st,.string sv]] w fun e w'=>e = .returned (.string (R++R2))∧Below w.heap.size w w':=by
 have hb0:=heap_alloc_new w (.cells #[.int .i64 id,.int .u32 n,.string st,.string sv] 46)
 have hB0:Below w.heap.size w (w.alloc (.cells #[.int .i64 id,.int .u32 n,.string st,.string sv] 46)):=(Below.refl _ _).alloc (Nat.le_refl _) _
 have LK:=Lib.hid LK
 have BT:=Lib.hid BT
 have BV:=Lib.hid BV
 have P0:=Lib.hid hb0
 have B0:=Lib.hid hB0
 have c0:=cell_of_row _ w.heap.size 0 _ _ _ hb0
 clear hb0 hB0
 go_enter Tryz.func205,Tryz.ntmps205
 go_wp2_with fail
 refine(LK.out _).mono ?_
 rintro e w1 ⟨A,m,x,y,rfl,hb⟩
 have P:=Lib.hid ((hb.block w.heap.size (by rw[World.size_alloc];omega)).trans P0.out)
 have B:=Lib.hid (B0.out.trans (hb.mono B0.out.size))
 have F0:=qkrp 7 A m m x y
 clear hb c0
 have c0:=cell_of_row _ w.heap.size 0 _ _ _ P.out
 have c1:=cell_of_row _ w.heap.size 1 _ _ _ P.out
 have c2:=cell_of_row _ w.heap.size 2 _ _ _ P.out
 have c3:=cell_of_row _ w.heap.size 3 _ _ _ P.out
 go_wp2_with fail
 refine(BT.out _).mono ?_
 rintro e w2 ⟨rfl,hb⟩
 have P:=Lib.hid ((hb.block w.heap.size (lt_of_block P.out)).trans P.out)
 have B:=Lib.hid (B.out.trans (hb.mono B.out.size))
 clear hb c0 c1 c2 c3
 have c0:=cell_of_row _ w.heap.size 0 _ _ _ P.out
 have c1:=cell_of_row _ w.heap.size 1 _ _ _ P.out
 have c2:=cell_of_row _ w.heap.size 2 _ _ _ P.out
 have c3:=cell_of_row _ w.heap.size 3 _ _ _ P.out
 go_wp2_with fail
 refine(LK.out _).mono ?_
 rintro e w3 ⟨A,m,x,y,rfl,hb⟩
 have F0:=qkrp 7 A m m x y
 have P:=Lib.hid ((hb.block w.heap.size (lt_of_block P.out)).trans P.out)
 have B:=Lib.hid (B.out.trans (hb.mono B.out.size))
 clear hb c0 c1 c2 c3
 have c0:=cell_of_row _ w.heap.size 0 _ _ _ P.out
 have c1:=cell_of_row _ w.heap.size 1 _ _ _ P.out
 have c2:=cell_of_row _ w.heap.size 2 _ _ _ P.out
 have c3:=cell_of_row _ w.heap.size 3 _ _ _ P.out
 go_wp2_with fail
 refine(BV.out _).mono ?_
 rintro e w4 ⟨rfl,hb⟩
 have P:=Lib.hid ((hb.block w.heap.size (lt_of_block P.out)).trans P.out)
 have B:=Lib.hid (B.out.trans (hb.mono B.out.size))
 clear hb c0 c1 c2 c3
 have c0:=cell_of_row _ w.heap.size 0 _ _ _ P.out
 have c1:=cell_of_row _ w.heap.size 1 _ _ _ P.out
 have c2:=cell_of_row _ w.heap.size 2 _ _ _ P.out
 have c3:=cell_of_row _ w.heap.size 3 _ _ _ P.out
 go_wp2_with fail
 go_ret
 exact⟨rfl,B.out⟩
end
theorem qq3r{kind:Int}(p:Pr)(ck:qr4y kind p=0)(w:World) :
 Calls Tryz.prog 205 #[qbhk p] w fun e w'=>e = .returned (.string (bs (qgdb p)))∧Below w.heap.size w w':=by
 obtain⟨hm,h4,h5⟩:=qo1o ck
 obtain⟨r1,r2,f1,f2,f3,f4,_⟩:=qznl hm
 have LK:=fun W=>(q43i p.id W).mono (R':=fun e w'=>∃A m x y,e = .returned (.agg #[.int .i64 ((qwgc p.id:Nat):Int),.slice A m m,.int .u32 x,.int .u32 y])∧Below W.heap.size W w') (fun e w' ⟨A,h1,h2,_⟩=>⟨A,_,_,_,h1,h2⟩)
 have hh:qwgc p.id=1∨qwgc p.id=2∨qwgc p.id=3∨qwgc p.id=4∨qwgc p.id=5∨qwgc p.id=6∨qwgc p.id=7:=by omega
 unfold qgdb qbhk
 rcases hh with s | s | s | s | s | s | s
 ·rw[s] at LK
  rw[if_pos s]
  obtain⟨_,_,_,hn⟩:=h4 (by omega)
  have:=f1 s
  exact q0sc LK (by simp only[IntKind.wrap_u64];omega) (fun W=>qeva p.n 1 W (by omega) (by decide) (by decide)) w
 ·rw[s] at LK
  rw[if_neg (by omega),if_pos s]
  obtain⟨_,_,_,hn⟩:=h4 (by omega)
  have:=f2 s
  exact qqo9 LK (by simp only[IntKind.wrap_u64];omega) (fun W=>qeva p.n 2 W (by omega) (by decide) (by decide)) w
 ·rw[s] at LK
  rw[if_neg (by omega),if_neg (by omega),if_pos s]
  obtain⟨_,_,_,hn⟩:=h4 (by omega)
  have:=f3 s
  exact qwbv LK (by simp only[IntKind.wrap_u64];omega) (fun W=>qeva p.n 4 W (by omega) (by decide) (by decide)) w
 ·rw[s] at LK
  rw[if_neg (by omega),if_neg (by omega),if_neg (by omega),if_pos s]
  obtain⟨_,_,_,hn⟩:=h4 (by omega)
  have:=f4 s
  exact qbt6 LK (by simp only[IntKind.wrap_i64];omega) (fun W=>qwha p.n W (by omega)) w
 all_goals
  rw[if_neg (by omega),if_neg (by omega),if_neg (by omega),if_neg (by omega)]
  obtain⟨_,hv7,hv6,hvt⟩:=h5 (by omega)
  rw[s] at LK
 ·rw[if_neg (by omega)]
  obtain⟨v1,v2⟩:=hvt (by omega)
  have l1:=((qbv6 _).1 v1).1
  exact q9o4 LK (fun W=>q5pn (bs p.text) W (by rw[q5zk];exact l1)) w
 ·rw[if_neg (by omega)]
  have l1:=hv6 s
  exact qfll LK (fun W=>q5pn (bs p.text) W (by rw[q5zk];exact l1)) w
 ·rw[if_pos s]
  obtain⟨v1,v2⟩:=hvt (by omega)
  have l1:=((qbv6 _).1 v1).1
  have l2:=((qbv6 _).1 v2).1
  have:=q5gg (st:=bs p.text) (sv:=bs p.value) (n:=p.n) LK (fun W=>q5pn (bs p.text) W (by rw[q5zk];exact l1)) (fun W=>q5pn (bs p.value) W (by rw[q5zk];exact l2)) (by rw[q5zk,q5zk,qnp6,qnp6,qkd1,qkd1];omega) w
  rw[qyv7] at this
  exact this
theorem qw8w{kind:Int}{p:Pr}(ck:qr4y kind p=0):(qgdb p).length≤200000:=by
 obtain⟨hm,h4,h5⟩:=qo1o ck
 obtain⟨r1,r2,f1,f2,f3,f4,_⟩:=qznl hm
 unfold qgdb
 by_cases s1:qwgc p.id=1
 ·rw[if_pos s1,q0rl];omega
 by_cases s2:qwgc p.id=2
 ·rw[if_neg s1,if_pos s2,q0rl];omega
 by_cases s3:qwgc p.id=3
 ·rw[if_neg s1,if_neg s2,if_pos s3,q0rl];omega
 by_cases s4:qwgc p.id=4
 ·rw[if_neg s1,if_neg s2,if_neg s3,if_pos s4,q8sw]
  obtain⟨_,_,_,hn⟩:=h4 (by omega)
  have:=f4 s4
  have:=qnl4 p.n (by omega)
  omega
 rw[if_neg s1,if_neg s2,if_neg s3,if_neg s4]
 obtain⟨_,hv7,hv6,hvt⟩:=h5 (by omega)
 by_cases s7:qwgc p.id=7
 ·obtain⟨v1,v2⟩:=hvt (by omega)
  have l1:=((qbv6 _).1 v1).1
  have l2:=((qbv6 _).1 v2).1
  rw[if_pos s7,List.length_append,qnp6,qnp6];omega
 ·rw[if_neg s7,qnp6]
  by_cases s6:qwgc p.id=6
  ·have:=hv6 s6;omega
  ·obtain⟨v1,_⟩:=hvt (by omega)
   have l1:=((qbv6 _).1 v1).1
   omega
theorem qbnl{kind:Int}:∀(l:List Pr),(∀p∈l,qr4y kind p=0)→(q636 l).length≤l.length*200001
 | [],_=>Nat.zero_le _
 | p::l,h=>by
  have h1:=qw8w (h p (List.mem_cons_self ..))
  have h2:=qbnl l (fun q hq=>h q (List.mem_cons_of_mem _ hq))
  rw[qhx5,List.length_append,qnrl,List.length_cons]
  omega
theorem qp37{kind:Int}(A:Option Addr)(n c:Nat)(l:List Pr)(w:World)(hl:PL w A l)(hn:l.length=n)(hN:n≤1010)(ck:∀p∈l,qr4y kind p=0) :
 Calls Tryz.prog 166 #[.slice A n c] w fun e w'=>e = .returned (.string (bs (q636 l)))∧Below w.heap.size w w':=by
 have HL:=Lib.hid hl
 have HN:=Lib.hid hn
 have CK:=Lib.hid ck
 have BL:=Lib.hid (fun k=>qbnl (l.take k) (fun p hp=>ck p (List.mem_of_mem_take hp)))
 have q0:(n:Int)≤1010:=by omega
 have H10:=Lib.hid hN
 clear hl hn ck hN
 go_enter Tryz.func166,Tryz.ntmps166
 go_wp2_with fail
 go_loopg [3,4] n (fun gk s3 s4 wx=>∃k:Nat,k≤n∧gk=n - k∧s4 = .int .i64 (k:Int)∧s3 = .string (bs (q636 (l.take k)))∧Below w.heap.size w wx)
 case atStart=>exact⟨0,Nat.zero_le _,rfl,rfl,rfl,Below.refl _ _⟩
 case round=>
  obtain⟨k,hk,rfl,rfl,rfl,hB⟩:=hrel
  have HB:=Lib.hid hB
  by_cases hlt:k < n
  ·have hkl:k < l.length:=by rw[HN.out];exact hlt
   obtain⟨p,hp⟩:∃p,l[k]? = some p:=⟨_,List.getElem?_eq_getElem hkl⟩
   obtain⟨g,i,rfl,hg',c0,c1,c2,c3⟩:=(HL.out.below hB).at hp
   have ckp:=CK.out p (List.mem_of_getElem? hp)
   have hid:=qilb (qo1o ckp).1
   have VA:=fun W=>qq3r p ckp W
   have htk:l.take (k+1)=l.take k++[p]:=by rw[List.take_add_one,hp];rfl
   obtain⟨x,hx⟩:∃x:Nat,p.id=(x:Int):=⟨p.id.toNat,by omega⟩
   have hw8:IntKind.u8.wrap p.id=((UInt8.ofNat x).toNat:Int):=by
    rw[hx];simp only[IntKind.wrap_u8]
    have:(UInt8.ofNat x).toNat=x:=by simp;omega
    rw[this];omega
   have HBD:=Lib.hid (show bs (q636 (l.take (k+1)))=bs (q636 (l.take k))++⟨#[UInt8.ofNat x]⟩++bs (qgdb p) by
    have h1:q636 (l.take (k+1))=q636 (l.take k)++[UInt8.ofNat x]++qgdb p:=by
     rw[htk,qd67,qhx5,qodo,List.append_nil]
     unfold oneP
     rw[hx]
     simp
    rw[h1,←qyv7,←qyv7];rfl)
   have b1:=BL.out k
   rw[List.length_take] at b1
   have b2:=qw8w ckp
   have n1:¬9223372036854775807 < (bs (q636 (l.take k))).size+1:=by rw[q5zk];have:=H10.out;omega
   have n2:¬9223372036854775807 < (bs (q636 (l.take k))).size+1+(bs (qgdb p)).size:=by rw[q5zk,q5zk];have:=H10.out;omega
   have sz1:(⟨#[UInt8.ofNat x]⟩:ByteArray).size=1:=rfl
   generalize UInt8.ofNat x=y at *
   generalize bs (q636 (l.take k))=o1 at *
   generalize bs (qgdb p)=o2 at *
   have VA:=Lib.hid VA
   have HX:=Lib.hid hx
   have HLT:=Lib.hid hlt
   have g1:(k:Int) < (n:Int):=by omega
   have MK:=Lib.hid (fun W (h:Below w.heap.size w W)=>(show W.cell? ⟨g,i+k*4,none⟩=some (.int .i64 p.id)∧W.cell? ⟨g,i+k*4+1,none⟩=some (.int .u32 p.n)∧W.cell? ⟨g,i+k*4+2,none⟩=some (.string (bs p.text))∧W.cell? ⟨g,i+k*4+3,none⟩=some (.string (bs p.value))∧Below w.heap.size w W from by
    obtain⟨g',i',e',_,d0,d1,d2,d3⟩:=(HL.out.below h).at hp
    cases e'
    exact⟨d0,d1,d2,d3,h⟩))
   have n3:¬9223372036854775807 < (o1++⟨#[y]⟩:ByteArray).size+o2.size:=by rw[ByteArray.size_append,sz1];exact n2
   clear ckp hid hkl htk b1 b2 hx hlt hk hp hB hg' c0 c1 c2 c3
   unfold qbhk at VA
   go_wp2_with fail
   refine qr0g (T:=fun W=>Below w.heap.size w W) g1 hw8 (by rw[sz1];exact n1) n3 (qnpu HB.out 1) (fun W h=>⟨(MK.out W h).1,(MK.out W h).2.1,(MK.out W h).2.2.1,(MK.out W h).2.2.2.1⟩) (fun W h=>h.alloc h.size _) (fun W W' h hb=>h.trans (hb.mono h.size)) (fun W _=>VA.out W) ?_
   intro r6 w6 hB6
   have HBx:=Lib.hid hB6
   clear hB6 n1 n2 n3 sz1 hw8
   go_wp2_with fail
   go_roundg (n - (k+1))
   case measure=>have:=HLT.out;omega
   case rel=>exact⟨k+1,by have:=HLT.out;omega,rfl,by go_num,by rw[HBD.out],HBx.out⟩
  ·obtain rfl:k=n:=by omega
   have e1:l.take k=l:=List.take_of_length_le (by rw[HN.out];omega)
   rw[e1]
   clear hB hlt hk e1
   go_wp2_with fail
   go_ret
   exact⟨rfl,HB.out⟩
def q585:List (Int×Value):=[(7,.func (.func 259) #[] #[]),(6,.func (.func 258) #[] #[]),(5,.func (.func 257) #[] #[]),(4,.func (.func 256) #[] #[]),(3,.func (.func 255) #[] #[]),(2,.func (.func 254) #[] #[]),(1,.func (.func 253) #[] #[])]
def qp0k(w:World)(b:Nat):Prop:=qmfc Tryz.prog 3 w b .nilFunc q585
theorem qhy7(w:World):Calls Tryz.prog 230 #[] w fun e w'=>e = .returned (.map (some w.heap.size))∧qp0k w' w.heap.size∧Below w.heap.size w w':=by
 have hmm:=@run_makeMap Tryz.prog
 have hG:MapG Tryz.prog 3 w (w.alloc (.map #[] 0)) w.heap.size .nilFunc []:=⟨qmfc.made _ _ _ _,(Below.refl _ _).alloc (Nat.le_refl _) _,Nat.le_refl _⟩
 go_enter Tryz.func230,Tryz.ntmps230
 go_wp2_with (refine q32q rfl _ _ _ 215 rfl 3 237 Tryz.underlying3 Tryz.underlying215 _ _ _ rfl hG (by simp[maxLen]) _ _ rfl rfl (by decide) ?_;clear hG;intro w1 hG)
 go_ret
 exact⟨rfl,hG.1,hG.2.1⟩
theorem qawq(W:World):(zeroValue 237).run Tryz.prog W = .ok .nilFunc W:=by kernel_rfl
theorem qp0k.look{w:World}{b:Nat}(h:qp0k w b)(s:Int)(h0:-9223372036854775808≤s)(h1:s≤9223372036854775807) :
 (Instr.lookup 215 (.map (some b)) (.int .i64 s) false).run Tryz.prog w = .ok (q1n3 .nilFunc q585 s) w:=
 qmfc.look h Tryz.underlying3 Tryz.underlying215 (qawq w) (qs52 h0 h1)
def curV(cb:Nat):Value := .agg #[.pointer (some ⟨cb,0,none⟩)]
def RdS(cb:Nat)(s:ByteArray)(i:Nat)(id:Int)(W:World)(e:Ending)(W':World):Prop:=
 ∃(p:Pr) (i' e':Nat),e = .returned (qbhk p)∧Cur W' cb s i' (e':Nat)∧W.grownBy W' (some cb)∧i'≤s.size∧
  (qij7 id (s.data.toList.drop i)).2.2=(if e'=3 then 5 else e')∧
  (e'=0→i'=i+(qij7 id (s.data.toList.drop i)).2.1∧qij7 id (s.data.toList.drop i)=(⟨id,p.n,p.text,p.value⟩,i' - i,0)∧p.n < 4294967296∧p.text.length≤65535∧p.value.length≤65535)
section
variable{w:World}{cb i:Nat}{s:ByteArray}
theorem Cur.alloc{e:Int}(h:Cur w cb s i e)(o:Obj):Cur (w.alloc o) cb s i e:=h.of_block (heap_alloc_old _ _ h.lt)
theorem qy0t(k:Nat)(f:Int)(hc:Cur w cb s i 0)(hi:i+k≤s.size)(hm:s.size≤9223372036854775807) :
 Calls Tryz.prog 266 #[curV cb,.int .i64 k,.int .i64 f] w fun e' w'=>e' = .returned (.tuple #[])∧Cur w' cb s (i+k) f∧w.grownBy w' (some cb):=by
 have hc1:=hc.alloc (.cells #[.pointer (some ⟨cb,0,none⟩)] 214)
 have TK:=Lib.hid (qpai k hc1 hi hm)
 have hne:cb≠w.heap.size:=Nat.ne_of_lt hc.lt
 have hb0:(w.alloc (.cells #[.pointer (some ⟨cb,0,none⟩)] 214)).heap[w.heap.size]? = some (.cells #[.pointer (some ⟨cb,0,none⟩)] 214 (0,0)):=heap_alloc_new w _
 have G0:=Lib.hid (World.grownBy_alloc w (.cells #[.pointer (some ⟨cb,0,none⟩)] 214) (some cb))
 have HB0:=Lib.hid hb0
 have SZ:=Lib.hid (World.size_alloc w (.cells #[.pointer (some ⟨cb,0,none⟩)] 214))
 unfold curV
 clear hc1 hi hb0
 go_enter Tryz.func266,Tryz.ntmps266
 go_wp2_with fail
 refine(TK.out).mono ?_
 rintro e w2 ⟨rfl,hc2,hg2⟩
 have hb2:=(hg2.block w.heap.size (by rw[SZ.out];omega) (fun e=>hne (Option.some.inj e).symm)).trans HB0.out
 have c0:w2.cell? ⟨w.heap.size,0,none⟩=some (.pointer (some ⟨cb,0,none⟩)):=cell_of_row _ _ _ _ _ _ hb2
 have FL:=Lib.hid (qxdm f hc2)
 have G2:=Lib.hid (qo6d G0.out hg2)
 clear hb2 hc2 hg2 TK
 go_wp2_with fail
 refine(FL.out).mono ?_
 rintro e w3 ⟨rfl,hc3,hg3⟩
 have HC3:=Lib.hid hc3
 have G3:=Lib.hid (qo6d G2.out hg3)
 clear hc3 hg3 c0
 go_wp2_with fail
 go_end0
 exact⟨rfl,HC3.out,G3.out⟩
theorem qzcj(k:Nat)(f:Int){e:Int}(hc:Cur w cb s i e)(he:(e==0)=false) :
 Calls Tryz.prog 266 #[curV cb,.int .i64 k,.int .i64 f] w fun e' w'=>e' = .returned (.tuple #[])∧Below w.heap.size w w':=by
 have hc1:=hc.alloc (.cells #[.pointer (some ⟨cb,0,none⟩)] 214)
 have TK:=Lib.hid (q95z (k:Int) hc1 he)
 have FL:=Lib.hid (fail_no f hc1 he)
 unfold curV
 clear hc1
 have B1:=Lib.hid (show Below w.heap.size w (w.alloc (.cells #[.pointer (some ⟨cb,0,none⟩)] 214)) from(Below.refl _ _).alloc (Nat.le_refl _) _)
 go_enter Tryz.func266,Tryz.ntmps266
 go_wp2_with fail
 refine(TK.out).mono ?_
 rintro e w2 ⟨rfl,rfl⟩
 go_wp2_with fail
 refine(FL.out).mono ?_
 rintro e w3 ⟨rfl,rfl⟩
 go_wp2_with fail
 go_end0
 exact⟨rfl,B1.out⟩
end
theorem qelx(s:ByteArray)(i c:Nat)(_h:i+c≤s.size)(hc:c≤8):qf3l (s.extract i (i+c))=num ((s.data.toList.drop i).take c):=by
 have e:(s.extract i (i+c)).data.toList=(s.data.toList.drop i).take c:=by simp[List.extract_eq_take_drop]
 have e2:(s.extract i (i+c)).size≤8:=by rw[q4ad,e,List.length_take];omega
 unfold qf3l
 rw[e,show(s.extract i (i+c)).size - 8=0 by omega];rfl
def RdW(w W:World)(cb:Nat):Prop:=
 w.grownBy W (some cb)∧W.heap[w.heap.size]? = some (.cells #[.pointer (some ⟨cb,0,none⟩)] 214 (0,0))∧W.heap[w.heap.size+1]? = some (.cells #[.int .i64 0,.int .u32 0,.string ⟨#[]⟩,.string ⟨#[]⟩] 46 (0,0))∧cb < w.heap.size∧w.heap.size+2≤W.heap.size
section
variable{w W W':World}{cb:Nat}
theorem RdW.made(h:cb < w.heap.size):RdW w ((w.alloc (.cells #[.pointer (some ⟨cb,0,none⟩)] 214)).alloc (.cells #[.int .i64 0,.int .u32 0,.string ⟨#[]⟩,.string ⟨#[]⟩] 46)) cb:=by
 refine⟨qo6d (World.grownBy_alloc _ _ _) (World.grownBy_alloc _ _ _),(heap_alloc_old _ _ (by simp)).trans (heap_alloc_new w _),?_,h,by simp⟩
 have:=heap_alloc_new (w.alloc (.cells #[.pointer (some ⟨cb,0,none⟩)] 214)) (.cells #[.int .i64 0,.int .u32 0,.string ⟨#[]⟩,.string ⟨#[]⟩] 46)
 rwa [World.size_alloc] at this
theorem RdW.step(h:RdW w W cb)(hg:W.grownBy W' (some cb)):RdW w W' cb:=by
 obtain⟨h1,h2,h3,h4,h5⟩:=h
 exact⟨qo6d h1 hg,(hg.block _ (by omega) (fun e=>by have:=Option.some.inj e;omega)).trans h2,(hg.block _ (by omega) (fun e=>by have:=Option.some.inj e;omega)).trans h3,h4,Nat.le_trans h5 hg.size⟩
theorem RdW.c0(h:RdW w W cb):W.cell? ⟨w.heap.size,0,none⟩=some (.pointer (some ⟨cb,0,none⟩)):=cell_of_row _ _ _ _ _ _ h.2.1
theorem RdW.fr(h:RdW w W cb)(j:Nat):W.frozen? ⟨w.heap.size+1,j,none⟩=false:=by have h1:=h.2.2.1;simp[World.frozen?,h1]
theorem RdW.r(h:RdW w W cb)(j:Nat):W.cell? ⟨w.heap.size+1,j,none⟩=(#[.int .i64 0,.int .u32 0,.string ⟨#[]⟩,.string ⟨#[]⟩]:Array Value)[j]? := cell_of_row _ _ _ _ _ _ h.2.2.1
end
def set4(W:World)(B:Nat)(a b c d:Value):World:=(((W.setCell ⟨B,0,none⟩ a).setCell ⟨B,1,none⟩ b).setCell ⟨B,2,none⟩ c).setCell ⟨B,3,none⟩ d
theorem qgwu{W:World}{B:Nat}{t:TypeId}{x0 x1 x2 x3:Value}(h:W.heap[B]? = some (.cells #[x0,x1,x2,x3] t (0,0)))(a b c d:Value):(set4 W B a b c d).heap[B]? = some (.cells #[a,b,c,d] t (0,0)):=by
 have h1:=qlvy h 0 a
 have h2:=qlvy h1 1 b
 have h3:=qlvy h2 2 c
 exact qlvy h3 3 d
theorem qai2(W:World)(B:Nat)(a b c d:Value)(k:Nat)(hk:k≠B):(set4 W B a b c d).heap[k]? = W.heap[k]? := by
 unfold set4
 rw[Below.heap_setCell _ _ _ _ hk,Below.heap_setCell _ _ _ _ hk,Below.heap_setCell _ _ _ _ hk,Below.heap_setCell _ _ _ _ hk]
theorem quyt{w W:World}{B:Nat}{r:Option Nat}(h:w.grownBy W r)(hB:w.heap.size≤B)(a b c d:Value):w.grownBy (set4 W B a b c d) r:=
 ⟨h.os,h.tape,h.output,by have:=h.size;unfold set4;simpa [World.setCell] using this,fun k hk hne=>(qai2 W B a b c d k (by omega)).trans (h.block k hk hne)⟩
theorem qden{w W:World}{B k:Nat}(h:Below B w W)(hB:B≤k)(a b c d:Value):Below B w (set4 W k a b c d):=
 ⟨h.os,h.tape,h.output,by have:=h.size;unfold set4;simpa [World.setCell] using this,fun m hm=>(qai2 W k a b c d m (by omega)).trans (h.block m hm)⟩
theorem RdW.fin{w W:World}{cb i:Nat}{s:ByteArray}{e:Int}(h:RdW w W cb)(hc:Cur W cb s i e)(a b c d:Value) :
 (set4 W (w.heap.size+1) a b c d).heap[w.heap.size+1]? = some (.cells #[a,b,c,d] 46 (0,0))∧Cur (set4 W (w.heap.size+1) a b c d) cb s i e∧w.grownBy (set4 W (w.heap.size+1) a b c d) (some cb):=
 ⟨qgwu h.2.2.1 a b c d,hc.of_block (qai2 _ _ _ _ _ _ _ (by have:=h.2.2.2.1;omega)),quyt h.1 (by omega) a b c d⟩
theorem qlwy{fn:Func}{R:Ending→World→Prop}{a:Act}{W:World}{p:Tmp}{B:Nat}{cs:Array Value}(h:fn.results=#[.cell p 46])(hp:a.tmps.getD p undef = .pointer (some ⟨B,0,none⟩))(hd:a.defers=[])(hcs:cs.size=4)
 (hg:W.heap[B]? = some (.cells cs 46 (0,0))) (hR:R (.returned (.agg cs)) W):bodyPost Tryz.prog fn R .ret a W:=
 bodyPost_ret (results_cell_row h a.tmps W B 46 cs (0,0) _ hp hg Tryz.underlying46 rfl (by rw[hcs];kernel_rfl)) hd hR
theorem qak3{w:World}{cb i:Nat}{s:ByteArray}(c:Nat)(hc:Cur w cb s i 0)(hi:i≤s.size)(hm:s.size≤9223372036854775807)(h4:c≤4)(h1:1≤c) :
 Calls Tryz.prog 265 #[curV cb,.int .i64 c] w fun e w'=>∃(n i':Nat) (e':Nat),e = .returned (qbhk ⟨0,n,[],[]⟩)∧Cur w' cb s i' (e':Nat)∧w.grownBy w' (some cb)∧((s.size - i < c∧n=0∧i'=i∧e'=3)∨(i+c≤s.size∧n=num ((s.data.toList.drop i).take c)∧i'=i+c∧e'=0)):=by
 have hcw:=(hc.alloc (.cells #[.pointer (some ⟨cb,0,none⟩)] 214)).alloc (.cells #[.int .i64 0,.int .u32 0,.string ⟨#[]⟩,.string ⟨#[]⟩] 46)
 have R0:=Lib.hid (RdW.made (w:=w) hc.lt)
 have main:∀(n i' e':Nat),n < 4294967296→Calls Tryz.prog 142 #[.pointer (some ⟨cb,0,none⟩),.int .i64 c] ((w.alloc (.cells #[.pointer (some ⟨cb,0,none⟩)] 214)).alloc (.cells #[.int .i64 0,.int .u32 0,.string ⟨#[]⟩,.string ⟨#[]⟩] 46))
  (fun e w'=>e = .returned (.int .u64 n)∧Cur w' cb s i' (e':Nat)∧((w.alloc (.cells #[.pointer (some ⟨cb,0,none⟩)] 214)).alloc (.cells #[.int .i64 0,.int .u32 0,.string ⟨#[]⟩,.string ⟨#[]⟩] 46)).grownBy w' (some cb))→
  Calls Tryz.prog 265 #[curV cb,.int .i64 c] w fun e w'=>e = .returned (qbhk ⟨0,n,[],[]⟩)∧Cur w' cb s i' (e':Nat)∧w.grownBy w' (some cb):=by
  intro n i' e' hlt NB0
  have NB:=Lib.hid NB0
  have hw:IntKind.u32.wrap (n:Int)=(n:Int):=by simp only[IntKind.wrap_u32];omega
  unfold curV
  clear hcw hc hlt hi h1 h4 NB0
  go_enter Tryz.func265,Tryz.ntmps265
  go_wp2_with fail
  refine(NB.out).mono ?_
  rintro e w2 ⟨rfl,hc2,hg2⟩
  have R1:=Lib.hid (R0.out.step hg2)
  have HC:=Lib.hid hc2
  have f0:=R1.out.fr 0
  have f1:=R1.out.fr 1
  have f2:=R1.out.fr 2
  have f3:=R1.out.fr 3
  have r0:=R1.out.r 0
  have r1:=R1.out.r 1
  have r2:=R1.out.r 2
  have r3:=R1.out.r 3
  clear hc2 hg2
  go_wp2_with fail
  obtain⟨k1,k2,k3⟩:=R1.out.fin HC.out (.int .i64 0) (.int .u32 n) (.string ⟨#[]⟩) (.string ⟨#[]⟩)
  exact qlwy rfl rfl rfl rfl k1 ⟨rfl,k2,k3⟩
 by_cases hp:i+c≤s.size
 ·have NB:=qvi6 c hcw hp hm
  rw[qelx s i c hp (by omega)] at NB
  have hlt:num ((s.data.toList.drop i).take c) < 4294967296:=by
   have h1:=qn9h ((s.data.toList.drop i).take c)
   have h2:256^((s.data.toList.drop i).take c).length≤256^4:=Nat.pow_le_pow_right (by decide) (by rw[List.length_take];omega)
   have h3:256^4=4294967296:=by decide
   omega
  exact(main _ (i+c) 0 hlt NB).mono fun e w' ⟨k1,k2,k3⟩=>⟨_,_,_,k1,k2,k3,.inr ⟨hp,rfl,rfl,rfl⟩⟩
 ·have NB:=q6bm (c:Int) hcw hi hm (by omega)
  exact(main 0 i 3 (by decide) NB).mono fun e w' ⟨k1,k2,k3⟩=>⟨_,_,_,k1,k2,k3,.inl ⟨by omega,rfl,rfl,rfl⟩⟩
theorem qh3u(s:ByteArray)(i:Nat):(s.extract i s.size).data.toList=s.data.toList.drop i:=Lib.extract_to_end s i
theorem q0f1(l:List UInt8):((rdT l).2.2=0∧rdT l=rdB l∧qecx (rdB l).1=true∧(rdB l).2.2=0)∨((rdT l).2.2=3∧rdT l=([],0,3)∧(rdB l).2.2≠0)∨((rdT l).2.2=6∧rdT l=([],0,6)∧(rdB l).2.2=0∧qecx (rdB l).1=false):=by
 unfold rdT
 by_cases h:(rdB l).2.2=0
 ·rw[if_neg (by simp[h])]
  cases hv:qecx (rdB l).1 with
  | true=>rw[if_pos rfl];exact .inl ⟨h,rfl,rfl,h⟩
  | false=>rw[if_neg (by simp)];exact .inr (.inr ⟨rfl,rfl,h,rfl⟩)
 ·rw[if_pos h];exact .inr (.inl ⟨rfl,rfl,h⟩)
theorem q3gm(l:List UInt8):(rdB l).2.1≤l.length∧(rdB l).1.length≤65535:=by
 rcases qsrz l with ⟨_,h1,h2,h3,_⟩ | h
 ·exact⟨h2,by omega⟩
 ·rw[h];exact⟨Nat.zero_le _,Nat.zero_le _⟩
theorem qslt(l:List UInt8):(rdT l).2.1≤l.length∧(rdT l).1.length≤65535:=by
 rcases q0f1 l with ⟨_,h,_⟩ | ⟨_,h,_⟩ | ⟨_,h,_⟩
 ·rw[h];exact q3gm l
 ·rw[h];exact⟨Nat.zero_le _,Nat.zero_le _⟩
 ·rw[h];exact⟨Nat.zero_le _,Nat.zero_le _⟩
theorem qif8{W W':World}{r:Option Nat}(h:W.grownBy W' r)(n:Nat):W.grownBy (W'.drewN n) r:=⟨h.os,h.tape,h.output,h.size,h.block⟩
section
variable{w:World}{cb i:Nat}{s:ByteArray}
theorem qi04(hc:Cur w cb s i 0)(hi:i≤s.size)(hm:s.size≤9223372036854775807) :
 Calls Tryz.prog 257 #[curV cb] w fun e w'=>e = .returned (qbhk ⟨0,0,(rdT (s.data.toList.drop i)).1,[]⟩)∧Cur w' cb s (i+(rdT (s.data.toList.drop i)).2.1) ((rdT (s.data.toList.drop i)).2.2:Nat)∧w.grownBy w' (some cb):=by
 have hcw:=(hc.alloc (.cells #[.pointer (some ⟨cb,0,none⟩)] 214)).alloc (.cells #[.int .i64 0,.int .u32 0,.string ⟨#[]⟩,.string ⟨#[]⟩] 46)
 have R0:=Lib.hid (RdW.made (w:=w) hc.lt)
 have RS:=Lib.hid (qdvc hcw hi hm)
 have HCW:=Lib.hid hcw
 have RD:=fun W=>q2z4 (s.extract i s.size) W (by rw[q4ad,qh3u,List.length_drop,←q4ad];omega)
 rw[qh3u] at RD
 have hk:i+(rdT (s.data.toList.drop i)).2.1≤s.size:=by
  have:=(qslt (s.data.toList.drop i)).1
  rw[List.length_drop,←q4ad] at this;omega
 generalize rdT (s.data.toList.drop i)=q at *
 obtain⟨t,k,z⟩:=q
 unfold ok3 at RD
 unfold curV
 have RD1:=Lib.hid RD
 have HK:=Lib.hid hk
 have HE:=Lib.hid hm
 have HM:=Lib.hid hm
 clear hc hi hm hcw RD hk
 go_enter Tryz.func257,Tryz.ntmps257
 go_wp2_with fail
 refine(RS.out).mono ?_
 rintro e w1 ⟨rfl,m,rfl⟩
 have R1:=Lib.hid (R0.out.step (qif8 (World.grownBy.refl _ _) m))
 have C1:=Lib.hid (HCW.out.draws m)
 clear RS HCW R0
 go_wp2_with fail
 refine(RD1.out _).mono ?_
 rintro e w2 ⟨rfl,hb⟩
 have R2:=Lib.hid (R1.out.step (q9cp hb _))
 have C2:=Lib.hid (C1.out.of_block (hb.block cb C1.out.lt))
 have c0:=R2.out.c0
 have PS:=Lib.hid (qy0t k z C2.out HK.out HM.out)
 clear hb C1 R1
 unfold curV at PS
 go_wp2_with fail
 refine(PS.out).mono ?_
 rintro e w3 ⟨rfl,hc3,hg3⟩
 have R3:=Lib.hid (R2.out.step hg3)
 have C3:=Lib.hid (hc3)
 have f0:=R3.out.fr 0
 have f1:=R3.out.fr 1
 have f2:=R3.out.fr 2
 have f3:=R3.out.fr 3
 have r0:=R3.out.r 0
 have r1:=R3.out.r 1
 have r2:=R3.out.r 2
 have r3:=R3.out.r 3
 clear hc3 hg3 R2 C2 c0 PS
 go_wp2_with fail
 obtain⟨k1,k2,k3⟩:=R3.out.fin C3.out (.int .i64 0) (.int .u32 0) (.string (bs t)) (.string ⟨#[]⟩)
 exact qlwy rfl rfl rfl rfl k1 ⟨rfl,k2,k3⟩
theorem q5dm{er:Int}(hc:Cur w cb s i er)(he:(er==0)=false)(hi:i≤s.size)(hm:s.size≤9223372036854775807) :
 Calls Tryz.prog 257 #[curV cb] w fun e w'=>e = .returned (qbhk ⟨0,0,(rdT (s.data.toList.drop i)).1,[]⟩)∧Cur w' cb s i er∧w.grownBy w' (some cb):=by
 have hcw:=(hc.alloc (.cells #[.pointer (some ⟨cb,0,none⟩)] 214)).alloc (.cells #[.int .i64 0,.int .u32 0,.string ⟨#[]⟩,.string ⟨#[]⟩] 46)
 have R0:=Lib.hid (RdW.made (w:=w) hc.lt)
 have RS:=Lib.hid (qdvc hcw hi hm)
 have HCW:=Lib.hid hcw
 have RD:=fun W=>q2z4 (s.extract i s.size) W (by rw[q4ad,qh3u,List.length_drop,←q4ad];omega)
 rw[qh3u] at RD
 have hk:i+(rdT (s.data.toList.drop i)).2.1≤s.size:=by
  have:=(qslt (s.data.toList.drop i)).1
  rw[List.length_drop,←q4ad] at this;omega
 generalize rdT (s.data.toList.drop i)=q at *
 obtain⟨t,k,z⟩:=q
 unfold ok3 at RD
 unfold curV
 have RD1:=Lib.hid RD
 have HK:=Lib.hid hk
 have HE:=Lib.hid he
 have HM:=Lib.hid hm
 clear hc hi hm hcw RD hk he
 go_enter Tryz.func257,Tryz.ntmps257
 go_wp2_with fail
 refine(RS.out).mono ?_
 rintro e w1 ⟨rfl,m,rfl⟩
 have R1:=Lib.hid (R0.out.step (qif8 (World.grownBy.refl _ _) m))
 have C1:=Lib.hid (HCW.out.draws m)
 clear RS HCW R0
 go_wp2_with fail
 refine(RD1.out _).mono ?_
 rintro e w2 ⟨rfl,hb⟩
 have R2:=Lib.hid (R1.out.step (q9cp hb _))
 have C2:=Lib.hid (C1.out.of_block (hb.block cb C1.out.lt))
 have c0:=R2.out.c0
 have PS:=Lib.hid (qzcj k z C2.out HE.out)
 clear hb C1 R1
 unfold curV at PS
 go_wp2_with fail
 refine(PS.out).mono ?_
 rintro e w3 ⟨rfl,hb3⟩
 have R3:=Lib.hid (R2.out.step (q9cp hb3 _))
 have C3:=Lib.hid (C2.out.of_block (hb3.block cb C2.out.lt))
 have f0:=R3.out.fr 0
 have f1:=R3.out.fr 1
 have f2:=R3.out.fr 2
 have f3:=R3.out.fr 3
 have r0:=R3.out.r 0
 have r1:=R3.out.r 1
 have r2:=R3.out.r 2
 have r3:=R3.out.r 3
 clear hb3 R2 C2 c0 PS
 go_wp2_with fail
 obtain⟨k1,k2,k3⟩:=R3.out.fin C3.out (.int .i64 0) (.int .u32 0) (.string (bs t)) (.string ⟨#[]⟩)
 exact qlwy rfl rfl rfl rfl k1 ⟨rfl,k2,k3⟩
theorem q6x7(hc:Cur w cb s i 0)(hi:i≤s.size)(hm:s.size≤9223372036854775807) :
 Calls Tryz.prog 258 #[curV cb] w fun e w'=>e = .returned (qbhk ⟨0,0,(rdB (s.data.toList.drop i)).1,[]⟩)∧Cur w' cb s (i+(rdB (s.data.toList.drop i)).2.1) ((rdB (s.data.toList.drop i)).2.2:Nat)∧w.grownBy w' (some cb):=by
 have hcw:=(hc.alloc (.cells #[.pointer (some ⟨cb,0,none⟩)] 214)).alloc (.cells #[.int .i64 0,.int .u32 0,.string ⟨#[]⟩,.string ⟨#[]⟩] 46)
 have R0:=Lib.hid (RdW.made (w:=w) hc.lt)
 have RS:=Lib.hid (qdvc hcw hi hm)
 have HCW:=Lib.hid hcw
 have RD:=fun W=>qgvs (s.extract i s.size) W (by rw[q4ad,qh3u,List.length_drop,←q4ad];omega)
 rw[qh3u] at RD
 have hk:i+(rdB (s.data.toList.drop i)).2.1≤s.size:=by
  have:=(q3gm (s.data.toList.drop i)).1
  rw[List.length_drop,←q4ad] at this;omega
 generalize rdB (s.data.toList.drop i)=q at *
 obtain⟨t,k,z⟩:=q
 unfold ok3 at RD
 unfold curV
 have RD1:=Lib.hid RD
 have HK:=Lib.hid hk
 have HE:=Lib.hid hm
 have HM:=Lib.hid hm
 clear hc hi hm hcw RD hk
 go_enter Tryz.func258,Tryz.ntmps258
 go_wp2_with fail
 refine(RS.out).mono ?_
 rintro e w1 ⟨rfl,m,rfl⟩
 have R1:=Lib.hid (R0.out.step (qif8 (World.grownBy.refl _ _) m))
 have C1:=Lib.hid (HCW.out.draws m)
 clear RS HCW R0
 go_wp2_with fail
 refine(RD1.out _).mono ?_
 rintro e w2 ⟨rfl,hb⟩
 have R2:=Lib.hid (R1.out.step (q9cp hb _))
 have C2:=Lib.hid (C1.out.of_block (hb.block cb C1.out.lt))
 have c0:=R2.out.c0
 have PS:=Lib.hid (qy0t k z C2.out HK.out HM.out)
 clear hb C1 R1
 unfold curV at PS
 go_wp2_with fail
 refine(PS.out).mono ?_
 rintro e w3 ⟨rfl,hc3,hg3⟩
 have R3:=Lib.hid (R2.out.step hg3)
 have C3:=Lib.hid (hc3)
 have f0:=R3.out.fr 0
 have f1:=R3.out.fr 1
 have f2:=R3.out.fr 2
 have f3:=R3.out.fr 3
 have r0:=R3.out.r 0
 have r1:=R3.out.r 1
 have r2:=R3.out.r 2
 have r3:=R3.out.r 3
 clear hc3 hg3 R2 C2 c0 PS
 go_wp2_with fail
 obtain⟨k1,k2,k3⟩:=R3.out.fin C3.out (.int .i64 0) (.int .u32 0) (.string (bs t)) (.string ⟨#[]⟩)
 exact qlwy rfl rfl rfl rfl k1 ⟨rfl,k2,k3⟩
end
theorem qips(l:List UInt8):rdN l≤l.length∧rdV l≤268435455∧(rdE l=0∨(rdN l=0∧rdV l=0∧(rdE l=3∨rdE l=5))):=by
 obtain⟨v,c,st,hr⟩:∃v n st,run 0 0 l=(v,n,st):=⟨_,_,_,rfl⟩
 obtain⟨e1,e2,e3⟩:=qa1w hr
 rcases qh9e l 0 0 with h1 | h1 | h1
 all_goals (rw[hr] at h1;simp only at h1;subst h1;simp at e1 e2 e3;rw[e1,e2,e3])
 ·exact⟨Nat.zero_le _,Nat.zero_le _,.inr ⟨rfl,rfl,.inl rfl⟩⟩
 ·obtain⟨b1,b2,b3,b4⟩:=qvpf l v c hr
  exact⟨by omega,by omega,.inl rfl⟩
 ·exact⟨Nat.zero_le _,Nat.zero_le _,.inr ⟨rfl,rfl,.inr rfl⟩⟩
section
variable{w:World}{cb i:Nat}{s:ByteArray}
theorem qdow(hc:Cur w cb s i 0)(hi:i≤s.size)(hm:s.size≤9223372036854775807) :
 Calls Tryz.prog 256 #[curV cb] w fun e w'=>e = .returned (qbhk ⟨0,rdV (s.data.toList.drop i),[],[]⟩)∧Cur w' cb s (i+rdN (s.data.toList.drop i)) (rdE (s.data.toList.drop i):Nat)∧w.grownBy w' (some cb):=by
 have hcw:=(hc.alloc (.cells #[.pointer (some ⟨cb,0,none⟩)] 214)).alloc (.cells #[.int .i64 0,.int .u32 0,.string ⟨#[]⟩,.string ⟨#[]⟩] 46)
 have R0:=Lib.hid (RdW.made (w:=w) hc.lt)
 have RS:=Lib.hid (qdvc hcw hi hm)
 have HCW:=Lib.hid hcw
 have RD:=fun W=>q6w6 (s.extract i s.size) W (by rw[q4ad,qh3u,List.length_drop,←q4ad];omega)
 rw[qh3u] at RD
 unfold qxfh q51h at RD
 obtain⟨q1,q2,_⟩:=qips (s.data.toList.drop i)
 rw[List.length_drop,←q4ad] at q1
 have hk:i+rdN (s.data.toList.drop i)≤s.size:=by omega
 generalize rdN (s.data.toList.drop i)=k at *
 generalize rdE (s.data.toList.drop i)=z at *
 generalize rdV (s.data.toList.drop i)=v at *
 unfold curV
 have hw:IntKind.u32.wrap (v:Int)=(v:Int):=by simp only[IntKind.wrap_u32];omega
 have RD1:=Lib.hid RD
 have HK:=Lib.hid hk
 have HM:=Lib.hid hm
 clear hc hi hm hcw RD hk q1 q2
 go_enter Tryz.func256,Tryz.ntmps256
 go_wp2_with fail
 refine(RS.out).mono ?_
 rintro e w1 ⟨rfl,m,rfl⟩
 have R1:=Lib.hid (R0.out.step (qif8 (World.grownBy.refl _ _) m))
 have C1:=Lib.hid (HCW.out.draws m)
 clear RS HCW R0
 go_wp2_with fail
 refine(RD1.out _).mono ?_
 rintro e w2 ⟨rfl,hb⟩
 have R2:=Lib.hid (R1.out.step (q9cp hb _))
 have C2:=Lib.hid (C1.out.of_block (hb.block cb C1.out.lt))
 have c0:=R2.out.c0
 have PS:=Lib.hid (qy0t k z C2.out HK.out HM.out)
 clear hb C1 R1
 unfold curV at PS
 go_wp2_with fail
 refine(PS.out).mono ?_
 rintro e w3 ⟨rfl,hc3,hg3⟩
 have R3:=Lib.hid (R2.out.step hg3)
 have C3:=Lib.hid hc3
 have f0:=R3.out.fr 0
 have f1:=R3.out.fr 1
 have f2:=R3.out.fr 2
 have f3:=R3.out.fr 3
 have r0:=R3.out.r 0
 have r1:=R3.out.r 1
 have r2:=R3.out.r 2
 have r3:=R3.out.r 3
 clear hc3 hg3 R2 C2 c0 PS
 go_wp2_with fail
 obtain⟨k1,k2,k3⟩:=R3.out.fin C3.out (.int .i64 0) (.int .u32 v) (.string ⟨#[]⟩) (.string ⟨#[]⟩)
 exact qlwy rfl rfl rfl rfl k1 ⟨rfl,k2,k3⟩
end
def CsAt(W:World)(cb:Nat)(s:ByteArray)(x:Cs):Prop:=∃i,i≤s.size∧Cur W cb s i (x.e:Nat)∧s.data.toList.drop i=x.r
section
variable{w W W':World}{cb:Nat}{s:ByteArray}{x:Cs}
theorem CsAt.lt(h:CsAt W cb s x):cb < W.heap.size:=by obtain⟨i,_,hc,_⟩:=h;exact hc.lt
theorem CsAt.of_block(h:CsAt W cb s x)(hb:W'.heap[cb]? = W.heap[cb]?):CsAt W' cb s x:=by obtain⟨i,hi,hc,hr⟩:=h;exact⟨i,hi,hc.of_block hb,hr⟩
theorem CsAt.alloc(h:CsAt W cb s x)(o:Obj):CsAt (W.alloc o) cb s x:=h.of_block (heap_alloc_old _ _ h.lt)
theorem CsAt.below(h:CsAt W cb s x)(hb:Below W.heap.size W W'):CsAt W' cb s x:=h.of_block (hb.block cb h.lt)
theorem CsAt.draws(h:CsAt W cb s x)(n:Nat):CsAt (W.drewN n) cb s x:=h
theorem CsAt.len(h:CsAt W cb s x):x.r.length≤s.size:=by
 obtain⟨i,hi,_,hr⟩:=h
 rw[←hr,List.length_drop,←q4ad];omega
theorem q31q(s:ByteArray)(i n:Nat):s.extract i (i+n)=bs ((s.data.toList.drop i).take n):=by
 apply ByteArray.ext
 apply Array.ext'
 simp[bs,List.extract_eq_take_drop]
theorem qgtr(n:Nat)(hm:s.size≤9223372036854775807)(h:CsAt w cb s x) :
 Calls Tryz.prog 170 #[.pointer (some ⟨cb,0,none⟩),.int .i64 n] w fun e w'=>e = .returned (.string (bs (x.take n).1))∧CsAt w' cb s (x.take n).2∧w.grownBy w' (some cb):=by
 obtain⟨i,hi,hc,hr⟩:=h
 have hl:x.r.length=s.size - i:=by rw[←hr,List.length_drop,←q4ad]
 unfold Cs.take
 by_cases he:x.e=0
 ·rw[if_neg (by simpa using he)]
  rw[he] at hc
  by_cases hn:x.r.length < n
  ·rw[if_pos hn]
   refine(ql8f (n:Int) hc hi hm (by omega)).mono fun e w' ⟨h1,h2,h3⟩=>⟨h1,⟨i,hi,h2,hr⟩,h3⟩
  ·rw[if_neg hn]
   refine(qpai n hc (by omega) hm).mono fun e w' ⟨h1,h2,h3⟩=>⟨?_,⟨i+n,by omega,h2,?_⟩,h3⟩
   ·rw[h1,q31q,hr]
   ·rw[←hr,List.drop_drop]
 ·rw[if_pos he]
  refine(q95z (n:Int) hc (by simp;omega)).mono fun e w' ⟨h1,h2⟩=>⟨h1,h2▸⟨i,hi,hc,hr⟩,h2▸World.grownBy.refl _ _⟩
theorem q8yf(n:Nat)(hn8:n≤8)(hm:s.size≤9223372036854775807)(h:CsAt w cb s x) :
 Calls Tryz.prog 142 #[.pointer (some ⟨cb,0,none⟩),.int .i64 n] w fun e w'=>e = .returned (.int .u64 ((x.num n).1:Nat))∧CsAt w' cb s (x.num n).2∧w.grownBy w' (some cb):=by
 obtain⟨i,hi,hc,hr⟩:=h
 have hl:x.r.length=s.size - i:=by rw[←hr,List.length_drop,←q4ad]
 unfold Cs.num Cs.take
 by_cases he:x.e=0
 ·rw[if_neg (by simpa using he)]
  rw[he] at hc
  by_cases hn:x.r.length < n
  ·rw[if_pos hn]
   refine(q6bm (n:Int) hc hi hm (by omega)).mono fun e w' ⟨h1,h2,h3⟩=>⟨h1,⟨i,hi,h2,hr⟩,h3⟩
  ·rw[if_neg hn]
   refine(qvi6 n hc (by omega) hm).mono fun e w' ⟨h1,h2,h3⟩=>⟨?_,⟨i+n,by omega,h2,?_⟩,h3⟩
   ·rw[h1,qelx s i n (by omega) hn8,hr]
   ·rw[←hr,List.drop_drop]
 ·rw[if_pos he]
  refine(qgl9 (n:Int) hc (by simp;omega)).mono fun e w' ⟨h1,h2⟩=>⟨h1,h2▸⟨i,hi,hc,hr⟩,h2▸World.grownBy.refl _ _⟩
theorem qjtm(hm:s.size≤9223372036854775807)(h:CsAt w cb s x) :
 Calls Tryz.prog 53 #[.pointer (some ⟨cb,0,none⟩)] w fun e w'=>e = .returned (.int .i64 (x.r.length:Nat))∧∃n,w'=w.drewN n:=by
 obtain⟨i,hi,hc,hr⟩:=h
 have hl:x.r.length=s.size - i:=by rw[←hr,List.length_drop,←q4ad]
 rw[hl]
 exact qog8 hc hi hm
def Cs.ahead(x:Cs):List UInt8:=if x.e=0 then x.r else []
theorem qitj(hm:s.size≤9223372036854775807)(h:CsAt w cb s x) :
 Calls Tryz.prog 234 #[.pointer (some ⟨cb,0,none⟩),.int .i64 (x.r.length:Nat)] w fun e w'=>e = .returned (.string (bs x.ahead))∧∃n,w'=w.drewN n:=by
 obtain⟨i,hi,hc,hr⟩:=h
 have hl:x.r.length=s.size - i:=by rw[←hr,List.length_drop,←q4ad]
 unfold Cs.ahead
 by_cases he:x.e=0
 ·rw[if_pos he]
  rw[he] at hc
  refine(q64u x.r.length hc (by omega) hm).mono fun e w' ⟨h1,h2⟩=>⟨?_,h2⟩
  rw[h1,q31q,hr,List.take_length]
 ·rw[if_neg he]
  exact(qtyr (x.r.length:Int) hc (by simp;omega)).mono fun e w' ⟨h1,h2⟩=>⟨h1,h2⟩
theorem qazj(f:Nat)(h:CsAt w cb s x) :
 Calls Tryz.prog 116 #[.pointer (some ⟨cb,0,none⟩),.int .i64 (f:Nat)] w fun e w'=>e = .returned (.tuple #[])∧CsAt w' cb s (x.fail f)∧w.grownBy w' (some cb):=by
 obtain⟨i,hi,hc,hr⟩:=h
 unfold Cs.fail
 by_cases he:x.e=0
 ·rw[if_neg (by simpa using he)]
  rw[he] at hc
  exact(qxdm (f:Int) hc).mono fun e w' ⟨h1,h2,h3⟩=>⟨h1,⟨i,hi,h2,hr⟩,h3⟩
 ·rw[if_pos he]
  exact(fail_no (f:Int) hc (by simp;omega)).mono fun e w' ⟨h1,h2⟩=>⟨h1,h2▸⟨i,hi,hc,hr⟩,h2▸World.grownBy.refl _ _⟩
theorem q3gp(h:CsAt w cb s x) :
 Calls Tryz.prog 54 #[.pointer (some ⟨cb,0,none⟩)] w fun e w'=>e = .returned (.int .i64 (x.e:Nat))∧w=w':=by
 obtain⟨i,hi,hc,hr⟩:=h
 exact q29p hc
end
def RsAt(W:World)(cb:Nat)(s:ByteArray)(x:Cs):Prop:=∃i,i≤s.size∧Ref W cb s i (x.e:Nat)∧s.data.toList.drop i=x.r
theorem qo1z(s:ByteArray)(i:Nat)(hi:i≤s.size):s.extract i s.size=bs (s.data.toList.drop i):=by
 have h:=q31q s i (s.size - i)
 rw[Nat.add_sub_cancel' hi] at h
 rw[h,List.take_of_length_le (by rw[List.length_drop,←q4ad];exact Nat.le_refl _)]
section
variable{w W W':World}{cb:Nat}{s:ByteArray}{x:Cs}
theorem RsAt.lt(h:RsAt W cb s x):cb < W.heap.size:=by obtain⟨i,_,hc,_⟩:=h;exact hc.lt
theorem RsAt.of_block(h:RsAt W cb s x)(hb:W'.heap[cb]? = W.heap[cb]?):RsAt W' cb s x:=by obtain⟨i,hi,hc,hr⟩:=h;exact⟨i,hi,hc.of_block hb,hr⟩
theorem RsAt.below(h:RsAt W cb s x)(hb:Below W.heap.size W W'):RsAt W' cb s x:=h.of_block (hb.block cb h.lt)
theorem qnev{i:Nat}(hi:i≤s.size)(hr:s.data.toList.drop i=x.r)(n:Nat):tk s i (x.e:Nat) n=bs (x.take n).1∧te s i (x.e:Nat) n=((x.take n).2.e:Nat)∧s.data.toList.drop (ti s i (x.e:Nat) n)=(x.take n).2.r:=by
 have hl:x.r.length=s.size - i:=by rw[←hr,List.length_drop,←q4ad]
 unfold Cs.take
 rcases qqbf s i (x.e:Nat) n hi with ⟨h,h1,h2,h3⟩ | ⟨h,hz,h1,h2,h3⟩ | ⟨h,hz,h1,h2,h3⟩ | ⟨m,h,hm,hz,h1,h2,h3⟩<;>rw[h1,h2,h3]
 ·have he:x.e≠0:=by intro e;rw[e] at h;cases h
  rw[if_pos he]
  exact⟨rfl,rfl,hr⟩
 ·omega
 ·rw[if_neg (by omega),if_pos (by omega)]
  exact⟨rfl,rfl,hr⟩
 ·obtain rfl:m=n:=by omega
  rw[if_neg (by omega),if_neg (by omega)]
  exact⟨by rw[q31q,hr],rfl,by rw[←hr,List.drop_drop]⟩
theorem qqdw(n:Nat)(hm:s.size≤9223372036854775807)(h:RsAt w cb s x) :
 Calls Tryz.prog 102 #[.pointer (some ⟨cb,0,none⟩),.int .i64 n] w fun e w'=>e = .returned (.string (bs (x.take n).1))∧RsAt w' cb s (x.take n).2∧w.grownBy w' (some cb):=by
 obtain⟨i,hi,hc,hr⟩:=h
 obtain⟨a1,a2,a3⟩:=qnev (x:=x) hi hr n
 refine(qmxh (n:Int) hc hi hm).mono fun e w' ⟨h1,h2,h3⟩=>⟨by rw[h1,a1],⟨_,qqc6 s i _ _ hi,by rw[←a2];exact h2,a3⟩,h3⟩
theorem qyb5(n:Nat)(hn8:n≤8)(hm:s.size≤9223372036854775807)(h:RsAt w cb s x) :
 Calls Tryz.prog 58 #[.pointer (some ⟨cb,0,none⟩),.int .i64 n] w fun e w'=>e = .returned (.int .u64 ((x.num n).1:Nat))∧RsAt w' cb s (x.num n).2∧w.grownBy w' (some cb):=by
 obtain⟨i,hi,hc,hr⟩:=h
 obtain⟨a1,a2,a3⟩:=qnev (x:=x) hi hr n
 have hle:(x.take n).1.length≤n:=by
  unfold Cs.take
  split
  ·exact Nat.zero_le _
  ·split
   ·exact Nat.zero_le _
   ·simp;omega
 have hN:qf3l (tk s i (x.e:Nat) n)=(x.num n).1:=by
  rw[a1]
  show num ((bs (x.take n).1).data.toList.drop ((bs (x.take n).1).size - 8))=num (x.take n).1
  rw[q5zk,show(x.take n).1.length - 8=0 by omega]
  rfl
 refine(quje (n:Int) hc hi hm).mono fun e w' ⟨h1,h2,h3⟩=>⟨by rw[h1,hN],⟨_,qqc6 s i _ _ hi,by rw[show((x.num n).2.e:Nat)=(x.take n).2.e from rfl,←a2];exact h2,a3⟩,h3⟩
theorem qw3h(f:Nat)(h:RsAt w cb s x) :
 Calls Tryz.prog 59 #[.pointer (some ⟨cb,0,none⟩),.int .i64 f] w fun e w'=>e = .returned (.tuple #[])∧RsAt w' cb s (x.fail f)∧w.grownBy w' (some cb):=by
 obtain⟨i,hi,hc,hr⟩:=h
 refine(qi5e (f:Int) hc).mono fun e w' ⟨h1,h2,h3⟩=>⟨h1,?_,h3⟩
 unfold Cs.fail
 by_cases he:x.e=0
 ·rw[if_neg (by simpa using he)]
  rw[show fe ((x.e:Nat):Int) f=(f:Int) by rw[he];rfl] at h2
  exact⟨i,hi,h2,hr⟩
 ·rw[if_pos he]
  have hb:(((x.e:Nat):Int)==0)=false:=by simp;omega
  rw[show fe ((x.e:Nat):Int) f=((x.e:Nat):Int) by unfold fe;rw[hb];rfl] at h2
  exact⟨i,hi,h2,hr⟩
theorem q5u4(hm:s.size≤9223372036854775807)(h:RsAt w cb s x) :
 Calls Tryz.prog 103 #[.pointer (some ⟨cb,0,none⟩)] w fun e w'=>e = .returned (.int .i64 (x.r.length:Nat))∧RsAt w' cb s x∧w.grownBy w' (some cb):=by
 obtain⟨i,hi,hc,hr⟩:=h
 have hl:x.r.length=s.size - i:=by rw[←hr,List.length_drop,←q4ad]
 rw[hl]
 refine(qr1r hc hi hm).mono fun e w' ⟨h1,n,h2⟩=>⟨h1,h2▸⟨i,hi,hc.draws n,hr⟩,h2▸qgju (n:=n) (World.grownBy.refl _ _)⟩
theorem qi43(hm:s.size≤70000)(h:RsAt w cb s x) :
 Calls Tryz.prog 120 #[.pointer (some ⟨cb,0,none⟩)] w fun e w'=>e = .returned (.string (bs x.text.1))∧RsAt w' cb s x.text.2∧w.grownBy w' (some cb):=by
 obtain⟨i,hi,hc,hr⟩:=h
 have hl:x.r.length=s.size - i:=by rw[←hr,List.length_drop,←q4ad]
 unfold Cs.text
 by_cases he:x.e=0
 ·rw[if_neg (by simpa using he)]
  rw[he] at hc
  have RS:=qv27 hc hi
  rw[qo1z s i hi,hr] at RS
  have RD:=fun W=>qgci (bs x.r) W (by rw[q5zk];omega)
  rw[qkd1] at RD
  have hz:(rdT x.r).2.1≤x.r.length:=(qslt x.r).1
  obtain⟨z,hzz⟩:∃z,(rdT x.r).2.1=z:=⟨_,rfl⟩
  obtain⟨f,hf⟩:∃f,(rdT x.r).2.2=f:=⟨_,rfl⟩
  unfold ok3 at RD
  rw[hzz] at hz RD ⊢
  rw[hf] at RD ⊢
  generalize (rdT x.r).1=t at *
  have hw:IntKind.i64.wrap ((i:Int)+(z:Int))=((i+z:Nat):Int):=by rw[IntKind.wrap_i64];omega
  have h1:=hc.c1
  have h2:=hc.c2
  have f1:=hc.fr 1
  have f2:=hc.fr 2
  have HC:=Lib.hid hc
  have RS:=Lib.hid RS
  have RD:=Lib.hid RD
  have HR:=Lib.hid hr
  have HZ:=Lib.hid hz
  have HL:=Lib.hid hl
  have HI:=Lib.hid hi
  clear hc hr hz hl hi he hzz hf
  go_enter Tryz.func120,Tryz.ntmps120
  go_wp2_with fail
  refine(RS.out).mono ?_
  rintro e W ⟨rfl,n,rfl⟩
  have h1:(w.drewN n).cell? ⟨cb,1,none⟩=some (.int .i64 i):=h1
  have h2:(w.drewN n).cell? ⟨cb,2,none⟩=some (.int .i64 0):=h2
  have f1:(w.drewN n).frozen? ⟨cb,1,none⟩=false:=f1
  have f2:(w.drewN n).frozen? ⟨cb,2,none⟩=false:=f2
  go_wp2_with fail
  refine(RD.out _).mono ?_
  rintro e W ⟨rfl,rfl⟩
  go_wp2_with fail
  go_ret
  refine⟨rfl,⟨i+z,by have:=HI.out;have:=HZ.out;have:=HL.out;omega,?_,by rw[←HR.out,List.drop_drop]⟩,?_⟩
  ·have h:=((HC.out.draws n).fail f).to (i+z)
   exact h
  ·exact qgju (qo6d (q99v _ _ _ _) (q99v _ _ _ _))
 ·rw[if_pos he]
  have h2:=hc.c2
  have he2:(((x.e:Nat):Int)==0)=false:=by simp;omega
  have he3:(((x.e:Nat):Int) != 0)=true:=by simp;omega
  have HH:=Lib.hid (show RsAt w cb s x from⟨i,hi,hc,hr⟩)
  clear he hc hi hr hl
  go_enter Tryz.func120,Tryz.ntmps120
  go_wp2_with fail
  go_ret
  exact⟨rfl,HH.out,World.grownBy.refl _ _⟩
theorem qdk6(hm:s.size≤70000)(h:RsAt w cb s x) :
 Calls Tryz.prog 121 #[.pointer (some ⟨cb,0,none⟩)] w fun e w'=>e = .returned (.string (bs x.bin.1))∧RsAt w' cb s x.bin.2∧w.grownBy w' (some cb):=by
 obtain⟨i,hi,hc,hr⟩:=h
 have hl:x.r.length=s.size - i:=by rw[←hr,List.length_drop,←q4ad]
 unfold Cs.bin
 by_cases he:x.e=0
 ·rw[if_neg (by simpa using he)]
  rw[he] at hc
  have RS:=qv27 hc hi
  rw[qo1z s i hi,hr] at RS
  have RD:=fun W=>qra5 (bs x.r) W (by rw[q5zk];omega)
  rw[qkd1] at RD
  have hz:(rdB x.r).2.1≤x.r.length:=(q3gm x.r).1
  obtain⟨z,hzz⟩:∃z,(rdB x.r).2.1=z:=⟨_,rfl⟩
  obtain⟨f,hf⟩:∃f,(rdB x.r).2.2=f:=⟨_,rfl⟩
  unfold ok3 at RD
  rw[hzz] at hz RD ⊢
  rw[hf] at RD ⊢
  generalize (rdB x.r).1=t at *
  have hw:IntKind.i64.wrap ((i:Int)+(z:Int))=((i+z:Nat):Int):=by rw[IntKind.wrap_i64];omega
  have h1:=hc.c1
  have h2:=hc.c2
  have f1:=hc.fr 1
  have f2:=hc.fr 2
  have HC:=Lib.hid hc
  have RS:=Lib.hid RS
  have RD:=Lib.hid RD
  have HR:=Lib.hid hr
  have HZ:=Lib.hid hz
  have HL:=Lib.hid hl
  have HI:=Lib.hid hi
  clear hc hr hz hl hi he hzz hf
  go_enter Tryz.func121,Tryz.ntmps121
  go_wp2_with fail
  refine(RS.out).mono ?_
  rintro e W ⟨rfl,n,rfl⟩
  have h1:(w.drewN n).cell? ⟨cb,1,none⟩=some (.int .i64 i):=h1
  have h2:(w.drewN n).cell? ⟨cb,2,none⟩=some (.int .i64 0):=h2
  have f1:(w.drewN n).frozen? ⟨cb,1,none⟩=false:=f1
  have f2:(w.drewN n).frozen? ⟨cb,2,none⟩=false:=f2
  go_wp2_with fail
  refine(RD.out _).mono ?_
  rintro e W ⟨rfl,rfl⟩
  go_wp2_with fail
  go_ret
  refine⟨rfl,⟨i+z,by have:=HI.out;have:=HZ.out;have:=HL.out;omega,?_,by rw[←HR.out,List.drop_drop]⟩,?_⟩
  ·have h:=((HC.out.draws n).fail f).to (i+z)
   exact h
  ·exact qgju (qo6d (q99v _ _ _ _) (q99v _ _ _ _))
 ·rw[if_pos he]
  have h2:=hc.c2
  have he2:(((x.e:Nat):Int)==0)=false:=by simp;omega
  have he3:(((x.e:Nat):Int) != 0)=true:=by simp;omega
  have HH:=Lib.hid (show RsAt w cb s x from⟨i,hi,hc,hr⟩)
  clear he hc hi hr hl
  go_enter Tryz.func121,Tryz.ntmps121
  go_wp2_with fail
  go_ret
  exact⟨rfl,HH.out,World.grownBy.refl _ _⟩
end
end Go.Proofs.YtaahhbjnflimnaaGreat
