/-
  The contracts of polyglotref05.value and body, at properties that are valid. Condition: as many as a list may have.
-/
import Derived.Deep.RegionHeld3
import Derived.Deep.LoopGhost
import Derived.Test.YtckdbnndpoleeaaGreatK34
import Derived.Test.YtckdbnndpoleeaaGreatK35
import Derived.Test.YtckdbnndpoleeaaGreatK37
import Derived.Test.YtckdbnndpoleeaaGreatK30
namespace Go.Proofs.YtckdbnndpoleeaaGreat
open Go.RowKit

section
variable {id n : Int} {st sv : ByteArray}
set_option maxRecDepth 100000 in
set_option maxHeartbeats 1000000 in
theorem rv_s1 (LK : ∀ W, Calls Tryz.prog 42 #[.int .i64 id] W fun e w' => ∃ A m x y, e = .returned (.agg #[.int .i64 1, .slice A m m, .int .u32 x, .int .u32 y]) ∧ Below W.heap.size W w') (hw : IntKind.u64.wrap n = n) {R : ByteArray} (PU : ∀ W, Calls Tryz.prog 83 #[.int .u64 n, .int .i64 1] W fun e w' => e = .returned (.string R) ∧ Below W.heap.size W w') (w : World) :
    Calls Tryz.prog 58 #[.agg #[.int .i64 id, .int .u32 n, .string st, .string sv]] w fun e w' => e = .returned (.string R) ∧ Below w.heap.size w w' := by
  have hb0 := heap_alloc_new w (.cells #[.int .i64 id, .int .u32 n, .string st, .string sv] 24)
  have hB0 : Below w.heap.size w (w.alloc (.cells #[.int .i64 id, .int .u32 n, .string st, .string sv] 24)) := (Below.refl _ _).alloc (Nat.le_refl _) _
  have LK := Lib.hid LK
  have PU := Lib.hid PU
  have P0 := Lib.hid hb0
  have B0 := Lib.hid hB0
  have c0 := cell_of_row _ w.heap.size 0 _ _ _ hb0
  clear hb0 hB0
  go_enter Tryz.func58, Tryz.ntmps58
  go_wp2_with fail
  refine (LK.out _).mono ?_
  rintro e w1 ⟨A, m, x, y, rfl, hb⟩
  have P := Lib.hid ((hb.block w.heap.size (by rw [World.size_alloc]; omega)).trans P0.out)
  have B := Lib.hid (B0.out.trans (hb.mono B0.out.size))
  have F0 := row_field0 1 A m m x y
  clear hb c0
  have c0 := cell_of_row _ w.heap.size 0 _ _ _ P.out
  have c1 := cell_of_row _ w.heap.size 1 _ _ _ P.out
  have c2 := cell_of_row _ w.heap.size 2 _ _ _ P.out
  have c3 := cell_of_row _ w.heap.size 3 _ _ _ P.out
  go_wp2_with fail
  refine (PU.out _).mono ?_
  rintro e w2 ⟨rfl, hb⟩
  have P := Lib.hid ((hb.block w.heap.size (lt_of_block P.out)).trans P.out)
  have B := Lib.hid (B.out.trans (hb.mono B.out.size))
  clear hb c0 c1 c2 c3
  have c0 := cell_of_row _ w.heap.size 0 _ _ _ P.out
  have c1 := cell_of_row _ w.heap.size 1 _ _ _ P.out
  have c2 := cell_of_row _ w.heap.size 2 _ _ _ P.out
  have c3 := cell_of_row _ w.heap.size 3 _ _ _ P.out
  go_wp2_with fail
  go_ret
  exact ⟨rfl, B.out⟩
set_option maxRecDepth 100000 in
set_option maxHeartbeats 1000000 in
theorem rv_s2 (LK : ∀ W, Calls Tryz.prog 42 #[.int .i64 id] W fun e w' => ∃ A m x y, e = .returned (.agg #[.int .i64 2, .slice A m m, .int .u32 x, .int .u32 y]) ∧ Below W.heap.size W w') (hw : IntKind.u64.wrap n = n) {R : ByteArray} (PU : ∀ W, Calls Tryz.prog 83 #[.int .u64 n, .int .i64 2] W fun e w' => e = .returned (.string R) ∧ Below W.heap.size W w') (w : World) :
    Calls Tryz.prog 58 #[.agg #[.int .i64 id, .int .u32 n, .string st, .string sv]] w fun e w' => e = .returned (.string R) ∧ Below w.heap.size w w' := by
  have hb0 := heap_alloc_new w (.cells #[.int .i64 id, .int .u32 n, .string st, .string sv] 24)
  have hB0 : Below w.heap.size w (w.alloc (.cells #[.int .i64 id, .int .u32 n, .string st, .string sv] 24)) := (Below.refl _ _).alloc (Nat.le_refl _) _
  have LK := Lib.hid LK
  have PU := Lib.hid PU
  have P0 := Lib.hid hb0
  have B0 := Lib.hid hB0
  have c0 := cell_of_row _ w.heap.size 0 _ _ _ hb0
  clear hb0 hB0
  go_enter Tryz.func58, Tryz.ntmps58
  go_wp2_with fail
  refine (LK.out _).mono ?_
  rintro e w1 ⟨A, m, x, y, rfl, hb⟩
  have P := Lib.hid ((hb.block w.heap.size (by rw [World.size_alloc]; omega)).trans P0.out)
  have B := Lib.hid (B0.out.trans (hb.mono B0.out.size))
  have F0 := row_field0 2 A m m x y
  clear hb c0
  have c0 := cell_of_row _ w.heap.size 0 _ _ _ P.out
  have c1 := cell_of_row _ w.heap.size 1 _ _ _ P.out
  have c2 := cell_of_row _ w.heap.size 2 _ _ _ P.out
  have c3 := cell_of_row _ w.heap.size 3 _ _ _ P.out
  go_wp2_with fail
  refine (PU.out _).mono ?_
  rintro e w2 ⟨rfl, hb⟩
  have P := Lib.hid ((hb.block w.heap.size (lt_of_block P.out)).trans P.out)
  have B := Lib.hid (B.out.trans (hb.mono B.out.size))
  clear hb c0 c1 c2 c3
  have c0 := cell_of_row _ w.heap.size 0 _ _ _ P.out
  have c1 := cell_of_row _ w.heap.size 1 _ _ _ P.out
  have c2 := cell_of_row _ w.heap.size 2 _ _ _ P.out
  have c3 := cell_of_row _ w.heap.size 3 _ _ _ P.out
  go_wp2_with fail
  go_ret
  exact ⟨rfl, B.out⟩
set_option maxRecDepth 100000 in
set_option maxHeartbeats 1000000 in
theorem rv_s3 (LK : ∀ W, Calls Tryz.prog 42 #[.int .i64 id] W fun e w' => ∃ A m x y, e = .returned (.agg #[.int .i64 3, .slice A m m, .int .u32 x, .int .u32 y]) ∧ Below W.heap.size W w') (hw : IntKind.u64.wrap n = n) {R : ByteArray} (PU : ∀ W, Calls Tryz.prog 83 #[.int .u64 n, .int .i64 4] W fun e w' => e = .returned (.string R) ∧ Below W.heap.size W w') (w : World) :
    Calls Tryz.prog 58 #[.agg #[.int .i64 id, .int .u32 n, .string st, .string sv]] w fun e w' => e = .returned (.string R) ∧ Below w.heap.size w w' := by
  have hb0 := heap_alloc_new w (.cells #[.int .i64 id, .int .u32 n, .string st, .string sv] 24)
  have hB0 : Below w.heap.size w (w.alloc (.cells #[.int .i64 id, .int .u32 n, .string st, .string sv] 24)) := (Below.refl _ _).alloc (Nat.le_refl _) _
  have LK := Lib.hid LK
  have PU := Lib.hid PU
  have P0 := Lib.hid hb0
  have B0 := Lib.hid hB0
  have c0 := cell_of_row _ w.heap.size 0 _ _ _ hb0
  clear hb0 hB0
  go_enter Tryz.func58, Tryz.ntmps58
  go_wp2_with fail
  refine (LK.out _).mono ?_
  rintro e w1 ⟨A, m, x, y, rfl, hb⟩
  have P := Lib.hid ((hb.block w.heap.size (by rw [World.size_alloc]; omega)).trans P0.out)
  have B := Lib.hid (B0.out.trans (hb.mono B0.out.size))
  have F0 := row_field0 3 A m m x y
  clear hb c0
  have c0 := cell_of_row _ w.heap.size 0 _ _ _ P.out
  have c1 := cell_of_row _ w.heap.size 1 _ _ _ P.out
  have c2 := cell_of_row _ w.heap.size 2 _ _ _ P.out
  have c3 := cell_of_row _ w.heap.size 3 _ _ _ P.out
  go_wp2_with fail
  refine (PU.out _).mono ?_
  rintro e w2 ⟨rfl, hb⟩
  have P := Lib.hid ((hb.block w.heap.size (lt_of_block P.out)).trans P.out)
  have B := Lib.hid (B.out.trans (hb.mono B.out.size))
  clear hb c0 c1 c2 c3
  have c0 := cell_of_row _ w.heap.size 0 _ _ _ P.out
  have c1 := cell_of_row _ w.heap.size 1 _ _ _ P.out
  have c2 := cell_of_row _ w.heap.size 2 _ _ _ P.out
  have c3 := cell_of_row _ w.heap.size 3 _ _ _ P.out
  go_wp2_with fail
  go_ret
  exact ⟨rfl, B.out⟩
set_option maxRecDepth 100000 in
set_option maxHeartbeats 1000000 in
theorem rv_s4 (LK : ∀ W, Calls Tryz.prog 42 #[.int .i64 id] W fun e w' => ∃ A m x y, e = .returned (.agg #[.int .i64 4, .slice A m m, .int .u32 x, .int .u32 y]) ∧ Below W.heap.size W w') (hw : IntKind.i64.wrap n = n) {R : ByteArray} {z : Int} (PU : ∀ W, Calls Tryz.prog 34 #[.int .i64 n] W fun e w' => e = .returned (.tuple #[.string R, .int .i64 z]) ∧ Below W.heap.size W w') (w : World) :
    Calls Tryz.prog 58 #[.agg #[.int .i64 id, .int .u32 n, .string st, .string sv]] w fun e w' => e = .returned (.string R) ∧ Below w.heap.size w w' := by
  have hb0 := heap_alloc_new w (.cells #[.int .i64 id, .int .u32 n, .string st, .string sv] 24)
  have hB0 : Below w.heap.size w (w.alloc (.cells #[.int .i64 id, .int .u32 n, .string st, .string sv] 24)) := (Below.refl _ _).alloc (Nat.le_refl _) _
  have LK := Lib.hid LK
  have PU := Lib.hid PU
  have P0 := Lib.hid hb0
  have B0 := Lib.hid hB0
  have c0 := cell_of_row _ w.heap.size 0 _ _ _ hb0
  clear hb0 hB0
  go_enter Tryz.func58, Tryz.ntmps58
  go_wp2_with fail
  refine (LK.out _).mono ?_
  rintro e w1 ⟨A, m, x, y, rfl, hb⟩
  have P := Lib.hid ((hb.block w.heap.size (by rw [World.size_alloc]; omega)).trans P0.out)
  have B := Lib.hid (B0.out.trans (hb.mono B0.out.size))
  have F0 := row_field0 4 A m m x y
  clear hb c0
  have c0 := cell_of_row _ w.heap.size 0 _ _ _ P.out
  have c1 := cell_of_row _ w.heap.size 1 _ _ _ P.out
  have c2 := cell_of_row _ w.heap.size 2 _ _ _ P.out
  have c3 := cell_of_row _ w.heap.size 3 _ _ _ P.out
  go_wp2_with fail
  refine (PU.out _).mono ?_
  rintro e w2 ⟨rfl, hb⟩
  have P := Lib.hid ((hb.block w.heap.size (lt_of_block P.out)).trans P.out)
  have B := Lib.hid (B.out.trans (hb.mono B.out.size))
  clear hb c0 c1 c2 c3
  have c0 := cell_of_row _ w.heap.size 0 _ _ _ P.out
  have c1 := cell_of_row _ w.heap.size 1 _ _ _ P.out
  have c2 := cell_of_row _ w.heap.size 2 _ _ _ P.out
  have c3 := cell_of_row _ w.heap.size 3 _ _ _ P.out
  go_wp2_with fail
  go_ret
  exact ⟨rfl, B.out⟩
set_option maxRecDepth 100000 in
set_option maxHeartbeats 1000000 in
theorem rv_s5 (LK : ∀ W, Calls Tryz.prog 42 #[.int .i64 id] W fun e w' => ∃ A m x y, e = .returned (.agg #[.int .i64 5, .slice A m m, .int .u32 x, .int .u32 y]) ∧ Below W.heap.size W w') {R : ByteArray} {z : Int} (BT : ∀ W, Calls Tryz.prog 84 #[.string st] W fun e w' => e = .returned (.tuple #[.string R, .int .i64 z]) ∧ Below W.heap.size W w') (w : World) :
    Calls Tryz.prog 58 #[.agg #[.int .i64 id, .int .u32 n, .string st, .string sv]] w fun e w' => e = .returned (.string R) ∧ Below w.heap.size w w' := by
  have hb0 := heap_alloc_new w (.cells #[.int .i64 id, .int .u32 n, .string st, .string sv] 24)
  have hB0 : Below w.heap.size w (w.alloc (.cells #[.int .i64 id, .int .u32 n, .string st, .string sv] 24)) := (Below.refl _ _).alloc (Nat.le_refl _) _
  have LK := Lib.hid LK
  have BT := Lib.hid BT
  have P0 := Lib.hid hb0
  have B0 := Lib.hid hB0
  have c0 := cell_of_row _ w.heap.size 0 _ _ _ hb0
  clear hb0 hB0
  go_enter Tryz.func58, Tryz.ntmps58
  go_wp2_with fail
  refine (LK.out _).mono ?_
  rintro e w1 ⟨A, m, x, y, rfl, hb⟩
  have P := Lib.hid ((hb.block w.heap.size (by rw [World.size_alloc]; omega)).trans P0.out)
  have B := Lib.hid (B0.out.trans (hb.mono B0.out.size))
  have F0 := row_field0 5 A m m x y
  clear hb c0
  have c0 := cell_of_row _ w.heap.size 0 _ _ _ P.out
  have c1 := cell_of_row _ w.heap.size 1 _ _ _ P.out
  have c2 := cell_of_row _ w.heap.size 2 _ _ _ P.out
  have c3 := cell_of_row _ w.heap.size 3 _ _ _ P.out
  go_wp2_with fail
  refine (BT.out _).mono ?_
  rintro e w2 ⟨rfl, hb⟩
  have P := Lib.hid ((hb.block w.heap.size (lt_of_block P.out)).trans P.out)
  have B := Lib.hid (B.out.trans (hb.mono B.out.size))
  clear hb c0 c1 c2 c3
  have c0 := cell_of_row _ w.heap.size 0 _ _ _ P.out
  have c1 := cell_of_row _ w.heap.size 1 _ _ _ P.out
  have c2 := cell_of_row _ w.heap.size 2 _ _ _ P.out
  have c3 := cell_of_row _ w.heap.size 3 _ _ _ P.out
  go_wp2_with fail
  refine (LK.out _).mono ?_
  rintro e w3 ⟨A, m, x, y, rfl, hb⟩
  have F0 := row_field0 5 A m m x y
  have P := Lib.hid ((hb.block w.heap.size (lt_of_block P.out)).trans P.out)
  have B := Lib.hid (B.out.trans (hb.mono B.out.size))
  clear hb c0 c1 c2 c3
  have c0 := cell_of_row _ w.heap.size 0 _ _ _ P.out
  have c1 := cell_of_row _ w.heap.size 1 _ _ _ P.out
  have c2 := cell_of_row _ w.heap.size 2 _ _ _ P.out
  have c3 := cell_of_row _ w.heap.size 3 _ _ _ P.out
  go_wp2_with fail
  go_ret
  exact ⟨rfl, B.out⟩
set_option maxRecDepth 100000 in
set_option maxHeartbeats 1000000 in
theorem rv_s6 (LK : ∀ W, Calls Tryz.prog 42 #[.int .i64 id] W fun e w' => ∃ A m x y, e = .returned (.agg #[.int .i64 6, .slice A m m, .int .u32 x, .int .u32 y]) ∧ Below W.heap.size W w') {R : ByteArray} {z : Int} (BT : ∀ W, Calls Tryz.prog 84 #[.string st] W fun e w' => e = .returned (.tuple #[.string R, .int .i64 z]) ∧ Below W.heap.size W w') (w : World) :
    Calls Tryz.prog 58 #[.agg #[.int .i64 id, .int .u32 n, .string st, .string sv]] w fun e w' => e = .returned (.string R) ∧ Below w.heap.size w w' := by
  have hb0 := heap_alloc_new w (.cells #[.int .i64 id, .int .u32 n, .string st, .string sv] 24)
  have hB0 : Below w.heap.size w (w.alloc (.cells #[.int .i64 id, .int .u32 n, .string st, .string sv] 24)) := (Below.refl _ _).alloc (Nat.le_refl _) _
  have LK := Lib.hid LK
  have BT := Lib.hid BT
  have P0 := Lib.hid hb0
  have B0 := Lib.hid hB0
  have c0 := cell_of_row _ w.heap.size 0 _ _ _ hb0
  clear hb0 hB0
  go_enter Tryz.func58, Tryz.ntmps58
  go_wp2_with fail
  refine (LK.out _).mono ?_
  rintro e w1 ⟨A, m, x, y, rfl, hb⟩
  have P := Lib.hid ((hb.block w.heap.size (by rw [World.size_alloc]; omega)).trans P0.out)
  have B := Lib.hid (B0.out.trans (hb.mono B0.out.size))
  have F0 := row_field0 6 A m m x y
  clear hb c0
  have c0 := cell_of_row _ w.heap.size 0 _ _ _ P.out
  have c1 := cell_of_row _ w.heap.size 1 _ _ _ P.out
  have c2 := cell_of_row _ w.heap.size 2 _ _ _ P.out
  have c3 := cell_of_row _ w.heap.size 3 _ _ _ P.out
  go_wp2_with fail
  refine (BT.out _).mono ?_
  rintro e w2 ⟨rfl, hb⟩
  have P := Lib.hid ((hb.block w.heap.size (lt_of_block P.out)).trans P.out)
  have B := Lib.hid (B.out.trans (hb.mono B.out.size))
  clear hb c0 c1 c2 c3
  have c0 := cell_of_row _ w.heap.size 0 _ _ _ P.out
  have c1 := cell_of_row _ w.heap.size 1 _ _ _ P.out
  have c2 := cell_of_row _ w.heap.size 2 _ _ _ P.out
  have c3 := cell_of_row _ w.heap.size 3 _ _ _ P.out
  go_wp2_with fail
  refine (LK.out _).mono ?_
  rintro e w3 ⟨A, m, x, y, rfl, hb⟩
  have F0 := row_field0 6 A m m x y
  have P := Lib.hid ((hb.block w.heap.size (lt_of_block P.out)).trans P.out)
  have B := Lib.hid (B.out.trans (hb.mono B.out.size))
  clear hb c0 c1 c2 c3
  have c0 := cell_of_row _ w.heap.size 0 _ _ _ P.out
  have c1 := cell_of_row _ w.heap.size 1 _ _ _ P.out
  have c2 := cell_of_row _ w.heap.size 2 _ _ _ P.out
  have c3 := cell_of_row _ w.heap.size 3 _ _ _ P.out
  go_wp2_with fail
  go_ret
  exact ⟨rfl, B.out⟩
set_option maxRecDepth 100000 in
set_option maxHeartbeats 1000000 in
theorem rv_s7 (LK : ∀ W, Calls Tryz.prog 42 #[.int .i64 id] W fun e w' => ∃ A m x y, e = .returned (.agg #[.int .i64 7, .slice A m m, .int .u32 x, .int .u32 y]) ∧ Below W.heap.size W w') {R : ByteArray} {z : Int} (BT : ∀ W, Calls Tryz.prog 84 #[.string st] W fun e w' => e = .returned (.tuple #[.string R, .int .i64 z]) ∧ Below W.heap.size W w') {R2 : ByteArray} {z2 : Int} (BV : ∀ W, Calls Tryz.prog 84 #[.string sv] W fun e w' => e = .returned (.tuple #[.string R2, .int .i64 z2]) ∧ Below W.heap.size W w') (hnl : ¬ 9223372036854775807 < R.size + R2.size) (w : World) :
    Calls Tryz.prog 58 #[.agg #[.int .i64 id, .int .u32 n, .string st, .string sv]] w fun e w' => e = .returned (.string (R ++ R2)) ∧ Below w.heap.size w w' := by
  have hb0 := heap_alloc_new w (.cells #[.int .i64 id, .int .u32 n, .string st, .string sv] 24)
  have hB0 : Below w.heap.size w (w.alloc (.cells #[.int .i64 id, .int .u32 n, .string st, .string sv] 24)) := (Below.refl _ _).alloc (Nat.le_refl _) _
  have LK := Lib.hid LK
  have BT := Lib.hid BT
  have BV := Lib.hid BV
  have P0 := Lib.hid hb0
  have B0 := Lib.hid hB0
  have c0 := cell_of_row _ w.heap.size 0 _ _ _ hb0
  clear hb0 hB0
  go_enter Tryz.func58, Tryz.ntmps58
  go_wp2_with fail
  refine (LK.out _).mono ?_
  rintro e w1 ⟨A, m, x, y, rfl, hb⟩
  have P := Lib.hid ((hb.block w.heap.size (by rw [World.size_alloc]; omega)).trans P0.out)
  have B := Lib.hid (B0.out.trans (hb.mono B0.out.size))
  have F0 := row_field0 7 A m m x y
  clear hb c0
  have c0 := cell_of_row _ w.heap.size 0 _ _ _ P.out
  have c1 := cell_of_row _ w.heap.size 1 _ _ _ P.out
  have c2 := cell_of_row _ w.heap.size 2 _ _ _ P.out
  have c3 := cell_of_row _ w.heap.size 3 _ _ _ P.out
  go_wp2_with fail
  refine (BT.out _).mono ?_
  rintro e w2 ⟨rfl, hb⟩
  have P := Lib.hid ((hb.block w.heap.size (lt_of_block P.out)).trans P.out)
  have B := Lib.hid (B.out.trans (hb.mono B.out.size))
  clear hb c0 c1 c2 c3
  have c0 := cell_of_row _ w.heap.size 0 _ _ _ P.out
  have c1 := cell_of_row _ w.heap.size 1 _ _ _ P.out
  have c2 := cell_of_row _ w.heap.size 2 _ _ _ P.out
  have c3 := cell_of_row _ w.heap.size 3 _ _ _ P.out
  go_wp2_with fail
  refine (LK.out _).mono ?_
  rintro e w3 ⟨A, m, x, y, rfl, hb⟩
  have F0 := row_field0 7 A m m x y
  have P := Lib.hid ((hb.block w.heap.size (lt_of_block P.out)).trans P.out)
  have B := Lib.hid (B.out.trans (hb.mono B.out.size))
  clear hb c0 c1 c2 c3
  have c0 := cell_of_row _ w.heap.size 0 _ _ _ P.out
  have c1 := cell_of_row _ w.heap.size 1 _ _ _ P.out
  have c2 := cell_of_row _ w.heap.size 2 _ _ _ P.out
  have c3 := cell_of_row _ w.heap.size 3 _ _ _ P.out
  go_wp2_with fail
  refine (BV.out _).mono ?_
  rintro e w4 ⟨rfl, hb⟩
  have P := Lib.hid ((hb.block w.heap.size (lt_of_block P.out)).trans P.out)
  have B := Lib.hid (B.out.trans (hb.mono B.out.size))
  clear hb c0 c1 c2 c3
  have c0 := cell_of_row _ w.heap.size 0 _ _ _ P.out
  have c1 := cell_of_row _ w.heap.size 1 _ _ _ P.out
  have c2 := cell_of_row _ w.heap.size 2 _ _ _ P.out
  have c3 := cell_of_row _ w.heap.size 3 _ _ _ P.out
  go_wp2_with fail
  go_ret
  exact ⟨rfl, B.out⟩
end
theorem ref_value {kind : Int} (p : Pr) (ck : checkP kind p = 0) (w : World) :
    Calls Tryz.prog 58 #[propV p] w fun e w' => e = .returned (.string (bs (valueP p))) ∧ Below w.heap.size w w' := by
  obtain ⟨hm, h4, h5⟩ := check_parts ck
  obtain ⟨r1, r2, f1, f2, f3, f4, _⟩ := row_fits hm
  have LK := fun W => (look_any p.id W).mono (R' := fun e w' => ∃ A m x y, e = .returned (.agg #[.int .i64 ((shapeP p.id : Nat) : Int), .slice A m m, .int .u32 x, .int .u32 y]) ∧ Below W.heap.size W w') (fun e w' ⟨A, h1, h2, _⟩ => ⟨A, _, _, _, h1, h2⟩)
  have hh : shapeP p.id = 1 ∨ shapeP p.id = 2 ∨ shapeP p.id = 3 ∨ shapeP p.id = 4 ∨ shapeP p.id = 5 ∨ shapeP p.id = 6 ∨ shapeP p.id = 7 := by omega
  unfold valueP propV
  rcases hh with s | s | s | s | s | s | s
  · rw [s] at LK
    rw [if_pos s]
    obtain ⟨_, _, _, hn⟩ := h4 (by omega)
    have := f1 s
    exact rv_s1 LK (by simp only [IntKind.wrap_u64]; omega) (fun W => ref_put p.n 1 W (by omega) (by decide) (by decide)) w
  · rw [s] at LK
    rw [if_neg (by omega), if_pos s]
    obtain ⟨_, _, _, hn⟩ := h4 (by omega)
    have := f2 s
    exact rv_s2 LK (by simp only [IntKind.wrap_u64]; omega) (fun W => ref_put p.n 2 W (by omega) (by decide) (by decide)) w
  · rw [s] at LK
    rw [if_neg (by omega), if_neg (by omega), if_pos s]
    obtain ⟨_, _, _, hn⟩ := h4 (by omega)
    have := f3 s
    exact rv_s3 LK (by simp only [IntKind.wrap_u64]; omega) (fun W => ref_put p.n 4 W (by omega) (by decide) (by decide)) w
  · rw [s] at LK
    rw [if_neg (by omega), if_neg (by omega), if_neg (by omega), if_pos s]
    obtain ⟨_, _, _, hn⟩ := h4 (by omega)
    have := f4 s
    exact rv_s4 LK (by simp only [IntKind.wrap_i64]; omega) (fun W => ref_bytes_some p.n W (by omega)) w
  all_goals
    rw [if_neg (by omega), if_neg (by omega), if_neg (by omega), if_neg (by omega)]
    obtain ⟨_, hv7, hv6, hvt⟩ := h5 (by omega)
    rw [s] at LK
  · rw [if_neg (by omega)]
    obtain ⟨v1, v2⟩ := hvt (by omega)
    have l1 := ((validOf_iff _).1 v1).1
    exact rv_s5 LK (fun W => ref_binary_yes (bs p.text) W (by rw [bs_size]; exact l1)) w
  · rw [if_neg (by omega)]
    have l1 := hv6 s
    exact rv_s6 LK (fun W => ref_binary_yes (bs p.text) W (by rw [bs_size]; exact l1)) w
  · rw [if_pos s]
    obtain ⟨v1, v2⟩ := hvt (by omega)
    have l1 := ((validOf_iff _).1 v1).1
    have l2 := ((validOf_iff _).1 v2).1
    have := rv_s7 (st := bs p.text) (sv := bs p.value) (n := p.n) LK (fun W => ref_binary_yes (bs p.text) W (by rw [bs_size]; exact l1)) (fun W => ref_binary_yes (bs p.value) W (by rw [bs_size]; exact l2)) (by rw [bs_size, bs_size, enc2_length, enc2_length, bs_data, bs_data]; omega) w
    rw [bs_append] at this
    exact this
end Go.Proofs.YtckdbnndpoleeaaGreat
