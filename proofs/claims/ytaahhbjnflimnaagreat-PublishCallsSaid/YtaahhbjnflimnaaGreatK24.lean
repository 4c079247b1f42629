/-
  The contract of polyglotref05.look: the row of the document's table. No condition.
-/
import Derived.Test.YtaahhbjnflimnaaGreatK09
import Derived.Test.YtaahhbjnflimnaaGreatK21
namespace Go.Proofs.YtaahhbjnflimnaaGreat
open Go.RowKit

/-- A list of ints lies at an address. -/
def KLs (W : World) (A : Option Addr) (ks : List Int) : Prop := ks = [] ∨ ∃ g, A = some ⟨g, 0, none⟩ ∧ W.heap[g]? = some (.cells (ks.map (Value.int .i64)).toArray 3 (0, 0))
/-- What look returns. -/
def LookP (w : World) (id : Int) (e : Ending) (W : World) : Prop :=
  ∃ A, e = .returned (.agg #[.int .i64 ((prow id).shape : Nat), .slice A (prow id).kinds.length (prow id).kinds.length, .int .u32 ((prow id).least : Nat), .int .u32 ((prow id).most : Nat)]) ∧ Below w.heap.size w W ∧ KLs W A (prow id).kinds
/-- What stands while a row is made: the result, the kinds. -/
def LkW (w : World) (ks : List Int) (W : World) : Prop := Below w.heap.size w W ∧ w.heap.size + 2 ≤ W.heap.size ∧ W.heap[w.heap.size]? = some (.cells #[.int .i64 0, .slice none 0 0, .int .u32 0, .int .u32 0] 193 (0, 0)) ∧ W.heap[w.heap.size + 1]? = some (.cells (ks.map (Value.int .i64)).toArray 3 (0, 0))
section
variable {w W W' : World} {ks : List Int}
theorem LkW.made (w : World) (ks : List Int) (cs : Array Value) (h : cs = (ks.map (Value.int .i64)).toArray) : LkW w ks ((w.alloc (.cells #[.int .i64 0, .slice none 0 0, .int .u32 0, .int .u32 0] 193)).alloc (.cells cs 3)) := by
  subst h
  refine ⟨((Below.refl _ _).alloc (Nat.le_refl _) _).alloc (by simp) _, by simp, (heap_alloc_old _ _ (by simp)).trans (heap_alloc_new w _), ?_⟩
  have := heap_alloc_new (w.alloc (.cells #[.int .i64 0, .slice none 0 0, .int .u32 0, .int .u32 0] 193)) (.cells (ks.map (Value.int .i64)).toArray 3)
  rwa [World.size_alloc] at this
theorem LkW.call (h : LkW w ks W) (hb : Below W.heap.size W W') : LkW w ks W' := by
  obtain ⟨h1, h2, h3, h4⟩ := h
  exact ⟨h1.trans (hb.mono h1.size), Nat.le_trans h2 hb.size, (hb.block _ (by omega)).trans h3, (hb.block _ (by omega)).trans h4⟩
theorem LkW.fr (h : LkW w ks W) (j : Nat) : W.frozen? ⟨w.heap.size, j, none⟩ = false := by have h1 := h.2.2.1; simp [World.frozen?, h1]
theorem LkW.r (h : LkW w ks W) (j : Nat) : W.cell? ⟨w.heap.size, j, none⟩ = (#[.int .i64 0, .slice none 0 0, .int .u32 0, .int .u32 0] : Array Value)[j]? := cell_of_row _ _ _ _ _ _ h.2.2.1
def st4 (W : World) (B : Nat) (a b c d : Value) : World := (((W.setCell ⟨B, 0, none⟩ a).setCell ⟨B, 1, none⟩ b).setCell ⟨B, 2, none⟩ c).setCell ⟨B, 3, none⟩ d
theorem st4_block {B : Nat} {t : TypeId} {x0 x1 x2 x3 : Value} (h : W.heap[B]? = some (.cells #[x0, x1, x2, x3] t (0, 0))) (a b c d : Value) : (st4 W B a b c d).heap[B]? = some (.cells #[a, b, c, d] t (0, 0)) := by
  have h1 := setCell_block h 0 a
  have h2 := setCell_block h1 1 b
  have h3 := setCell_block h2 2 c
  exact setCell_block h3 3 d
theorem st4_other (B : Nat) (a b c d : Value) (k : Nat) (hk : k ≠ B) : (st4 W B a b c d).heap[k]? = W.heap[k]? := by
  unfold st4
  rw [Below.heap_setCell _ _ _ _ hk, Below.heap_setCell _ _ _ _ hk, Below.heap_setCell _ _ _ _ hk, Below.heap_setCell _ _ _ _ hk]
theorem below_st4 {B k : Nat} (h : Below B w W) (hB : B ≤ k) (a b c d : Value) : Below B w (st4 W k a b c d) :=
  ⟨h.os, h.tape, h.output, by have := h.size; unfold st4; simpa [World.setCell] using this, fun m hm => (st4_other k a b c d m (by omega)).trans (h.block m hm)⟩
theorem pc_ret_row {fn : Func} {R : Ending → World → Prop} {a : Act} {p : Tmp} {B : Nat} {cs : Array Value} (h : fn.results = #[.cell p 193]) (hp : a.tmps.getD p undef = .pointer (some ⟨B, 0, none⟩)) (hd : a.defers = []) (hcs : cs.size = 4)
    (hg : W.heap[B]? = some (.cells cs 193 (0, 0))) (hR : R (.returned (.agg cs)) W) : bodyPost Tryz.prog fn R .ret a W :=
  bodyPost_ret (results_cell_row h a.tmps W B 193 cs (0, 0) _ hp hg Tryz.underlying193 rfl (by rw [hcs]; kernel_rfl)) hd hR
theorem LkW.fin {id : Int} (h : LkW w (prow id).kinds W) : LookP w id (.returned (.agg #[.int .i64 ((prow id).shape : Nat), .slice (some ⟨w.heap.size + 1, 0, none⟩) (prow id).kinds.length (prow id).kinds.length, .int .u32 ((prow id).least : Nat), .int .u32 ((prow id).most : Nat)]))
    (st4 W w.heap.size (.int .i64 ((prow id).shape : Nat)) (.slice (some ⟨w.heap.size + 1, 0, none⟩) (prow id).kinds.length (prow id).kinds.length) (.int .u32 ((prow id).least : Nat)) (.int .u32 ((prow id).most : Nat))) :=
  ⟨_, rfl, below_st4 h.1 (Nat.le_refl _) _ _ _ _, .inr ⟨_, rfl, (st4_other _ _ _ _ _ _ (by omega)).trans h.2.2.2⟩⟩
end
theorem lk_one (A : Option Addr) (n c : Nat) (_x : Int) (w : World) :
    Calls Tryz.prog 235 #[.slice A n c] w fun e w' => e = .returned (.agg #[.int .i64 1, .slice A n c, .int .u32 0, .int .u32 1]) ∧ Below w.heap.size w w' := by
  go_enter Tryz.func235, Tryz.ntmps235
  go_wp2_with fail
  exact pc_ret_row rfl rfl rfl rfl (heap_alloc_new w _) ⟨rfl, (Below.refl _ _).alloc (Nat.le_refl _) _⟩
theorem lk_two (A : Option Addr) (n c : Nat) (x : Int) (w : World) :
    Calls Tryz.prog 238 #[.slice A n c, .int .u32 x] w fun e w' => e = .returned (.agg #[.int .i64 2, .slice A n c, .int .u32 x, .int .u32 65535]) ∧ Below w.heap.size w w' := by
  go_enter Tryz.func238, Tryz.ntmps238
  go_wp2_with fail
  exact pc_ret_row rfl rfl rfl rfl (heap_alloc_new w _) ⟨rfl, (Below.refl _ _).alloc (Nat.le_refl _) _⟩
theorem lk_four (A : Option Addr) (n c : Nat) (x : Int) (w : World) :
    Calls Tryz.prog 236 #[.slice A n c, .int .u32 x] w fun e w' => e = .returned (.agg #[.int .i64 3, .slice A n c, .int .u32 x, .int .u32 4294967295]) ∧ Below w.heap.size w w' := by
  go_enter Tryz.func236, Tryz.ntmps236
  go_wp2_with fail
  exact pc_ret_row rfl rfl rfl rfl (heap_alloc_new w _) ⟨rfl, (Below.refl _ _).alloc (Nat.le_refl _) _⟩
theorem lk_of (A : Option Addr) (n c : Nat) (x : Int) (w : World) :
    Calls Tryz.prog 237 #[.int .i64 x, .slice A n c] w fun e w' => e = .returned (.agg #[.int .i64 x, .slice A n c, .int .u32 0, .int .u32 0]) ∧ Below w.heap.size w w' := by
  go_enter Tryz.func237, Tryz.ntmps237
  go_wp2_with fail
  exact pc_ret_row rfl rfl rfl rfl (heap_alloc_new w _) ⟨rfl, (Below.refl _ _).alloc (Nat.le_refl _) _⟩
theorem look_1 (w : World) : Calls Tryz.prog 211 #[.int .i64 1] w (LookP w 1) := by
  have L0 := Lib.hid (LkW.made w [3, 16] #[.int .i64 3, .int .i64 16] rfl)
  go_enter Tryz.func211, Tryz.ntmps211
  go_wp2_with fail
  refine (lk_one _ 2 2 0 _).mono ?_
  rintro e w2 ⟨rfl, hb⟩
  have L := Lib.hid (L0.out.call hb)
  clear hb L0
  have f0 := L.out.fr 0
  have f1 := L.out.fr 1
  have f2 := L.out.fr 2
  have f3 := L.out.fr 3
  have r0 := L.out.r 0
  have r1 := L.out.r 1
  have r2 := L.out.r 2
  have r3 := L.out.r 3
  go_wp2_with fail
  exact pc_ret_row rfl rfl rfl rfl (st4_block L.out.2.2.1 _ _ _ _) (LkW.fin (id := 1) L.out)
theorem look_2 (w : World) : Calls Tryz.prog 211 #[.int .i64 2] w (LookP w 2) := by
  have L0 := Lib.hid (LkW.made w [3, 16] #[.int .i64 3, .int .i64 16] rfl)
  go_enter Tryz.func211, Tryz.ntmps211
  go_wp2_with fail
  refine (lk_four _ 2 2 0 _).mono ?_
  rintro e w2 ⟨rfl, hb⟩
  have L := Lib.hid (L0.out.call hb)
  clear hb L0
  have f0 := L.out.fr 0
  have f1 := L.out.fr 1
  have f2 := L.out.fr 2
  have f3 := L.out.fr 3
  have r0 := L.out.r 0
  have r1 := L.out.r 1
  have r2 := L.out.r 2
  have r3 := L.out.r 3
  go_wp2_with fail
  exact pc_ret_row rfl rfl rfl rfl (st4_block L.out.2.2.1 _ _ _ _) (LkW.fin (id := 2) L.out)
theorem look_3 (w : World) : Calls Tryz.prog 211 #[.int .i64 3] w (LookP w 3) := by
  have L0 := Lib.hid (LkW.made w [3, 16] #[.int .i64 3, .int .i64 16] rfl)
  go_enter Tryz.func211, Tryz.ntmps211
  go_wp2_with fail
  refine (lk_of _ 2 2 5 _).mono ?_
  rintro e w2 ⟨rfl, hb⟩
  have L := Lib.hid (L0.out.call hb)
  clear hb L0
  have f0 := L.out.fr 0
  have f1 := L.out.fr 1
  have f2 := L.out.fr 2
  have f3 := L.out.fr 3
  have r0 := L.out.r 0
  have r1 := L.out.r 1
  have r2 := L.out.r 2
  have r3 := L.out.r 3
  go_wp2_with fail
  exact pc_ret_row rfl rfl rfl rfl (st4_block L.out.2.2.1 _ _ _ _) (LkW.fin (id := 3) L.out)
theorem look_8 (w : World) : Calls Tryz.prog 211 #[.int .i64 8] w (LookP w 8) := by
  have L0 := Lib.hid (LkW.made w [3, 16] #[.int .i64 3, .int .i64 16] rfl)
  go_enter Tryz.func211, Tryz.ntmps211
  go_wp2_with fail
  refine (lk_of _ 2 2 5 _).mono ?_
  rintro e w2 ⟨rfl, hb⟩
  have L := Lib.hid (L0.out.call hb)
  clear hb L0
  have f0 := L.out.fr 0
  have f1 := L.out.fr 1
  have f2 := L.out.fr 2
  have f3 := L.out.fr 3
  have r0 := L.out.r 0
  have r1 := L.out.r 1
  have r2 := L.out.r 2
  have r3 := L.out.r 3
  go_wp2_with fail
  exact pc_ret_row rfl rfl rfl rfl (st4_block L.out.2.2.1 _ _ _ _) (LkW.fin (id := 8) L.out)
theorem look_9 (w : World) : Calls Tryz.prog 211 #[.int .i64 9] w (LookP w 9) := by
  have L0 := Lib.hid (LkW.made w [3, 16] #[.int .i64 3, .int .i64 16] rfl)
  go_enter Tryz.func211, Tryz.ntmps211
  go_wp2_with fail
  refine (lk_of _ 2 2 6 _).mono ?_
  rintro e w2 ⟨rfl, hb⟩
  have L := Lib.hid (L0.out.call hb)
  clear hb L0
  have f0 := L.out.fr 0
  have f1 := L.out.fr 1
  have f2 := L.out.fr 2
  have f3 := L.out.fr 3
  have r0 := L.out.r 0
  have r1 := L.out.r 1
  have r2 := L.out.r 2
  have r3 := L.out.r 3
  go_wp2_with fail
  exact pc_ret_row rfl rfl rfl rfl (st4_block L.out.2.2.1 _ _ _ _) (LkW.fin (id := 9) L.out)
theorem look_11 (w : World) : Calls Tryz.prog 211 #[.int .i64 11] w (LookP w 11) := by
  have L0 := Lib.hid (LkW.made w [3, 8] #[.int .i64 3, .int .i64 8] rfl)
  go_enter Tryz.func211, Tryz.ntmps211
  go_wp2_with fail
  refine pc_ret_row rfl rfl rfl rfl ((heap_alloc_old _ _ (by simp)).trans (heap_alloc_new w _)) ⟨_, rfl, ((Below.refl _ _).alloc (Nat.le_refl _) _).alloc (by simp) _, .inr ⟨_, rfl, ?_⟩⟩
  have := heap_alloc_new (w.alloc (.cells #[.int .i64 4, .slice (some ⟨w.heap.size + 1, 0, none⟩) 2 2, .int .u32 1, .int .u32 268435455] 193)) (.cells #[.int .i64 3, .int .i64 8] 3)
  rwa [World.size_alloc] at this
theorem look_17 (w : World) : Calls Tryz.prog 211 #[.int .i64 17] w (LookP w 17) := by
  have L0 := Lib.hid (LkW.made w [1, 2, 14] #[.int .i64 1, .int .i64 2, .int .i64 14] rfl)
  go_enter Tryz.func211, Tryz.ntmps211
  go_wp2_with fail
  refine (lk_four _ 3 3 0 _).mono ?_
  rintro e w2 ⟨rfl, hb⟩
  have L := Lib.hid (L0.out.call hb)
  clear hb L0
  have f0 := L.out.fr 0
  have f1 := L.out.fr 1
  have f2 := L.out.fr 2
  have f3 := L.out.fr 3
  have r0 := L.out.r 0
  have r1 := L.out.r 1
  have r2 := L.out.r 2
  have r3 := L.out.r 3
  go_wp2_with fail
  exact pc_ret_row rfl rfl rfl rfl (st4_block L.out.2.2.1 _ _ _ _) (LkW.fin (id := 17) L.out)
theorem look_18 (w : World) : Calls Tryz.prog 211 #[.int .i64 18] w (LookP w 18) := by
  have L0 := Lib.hid (LkW.made w [2] #[.int .i64 2] rfl)
  go_enter Tryz.func211, Tryz.ntmps211
  go_wp2_with fail
  refine (lk_of _ 1 1 5 _).mono ?_
  rintro e w2 ⟨rfl, hb⟩
  have L := Lib.hid (L0.out.call hb)
  clear hb L0
  have f0 := L.out.fr 0
  have f1 := L.out.fr 1
  have f2 := L.out.fr 2
  have f3 := L.out.fr 3
  have r0 := L.out.r 0
  have r1 := L.out.r 1
  have r2 := L.out.r 2
  have r3 := L.out.r 3
  go_wp2_with fail
  exact pc_ret_row rfl rfl rfl rfl (st4_block L.out.2.2.1 _ _ _ _) (LkW.fin (id := 18) L.out)
theorem look_26 (w : World) : Calls Tryz.prog 211 #[.int .i64 26] w (LookP w 26) := by
  have L0 := Lib.hid (LkW.made w [2] #[.int .i64 2] rfl)
  go_enter Tryz.func211, Tryz.ntmps211
  go_wp2_with fail
  refine (lk_of _ 1 1 5 _).mono ?_
  rintro e w2 ⟨rfl, hb⟩
  have L := Lib.hid (L0.out.call hb)
  clear hb L0
  have f0 := L.out.fr 0
  have f1 := L.out.fr 1
  have f2 := L.out.fr 2
  have f3 := L.out.fr 3
  have r0 := L.out.r 0
  have r1 := L.out.r 1
  have r2 := L.out.r 2
  have r3 := L.out.r 3
  go_wp2_with fail
  exact pc_ret_row rfl rfl rfl rfl (st4_block L.out.2.2.1 _ _ _ _) (LkW.fin (id := 26) L.out)
theorem look_19 (w : World) : Calls Tryz.prog 211 #[.int .i64 19] w (LookP w 19) := by
  have L0 := Lib.hid (LkW.made w [2] #[.int .i64 2] rfl)
  go_enter Tryz.func211, Tryz.ntmps211
  go_wp2_with fail
  refine (lk_two _ 1 1 0 _).mono ?_
  rintro e w2 ⟨rfl, hb⟩
  have L := Lib.hid (L0.out.call hb)
  clear hb L0
  have f0 := L.out.fr 0
  have f1 := L.out.fr 1
  have f2 := L.out.fr 2
  have f3 := L.out.fr 3
  have r0 := L.out.r 0
  have r1 := L.out.r 1
  have r2 := L.out.r 2
  have r3 := L.out.r 3
  go_wp2_with fail
  exact pc_ret_row rfl rfl rfl rfl (st4_block L.out.2.2.1 _ _ _ _) (LkW.fin (id := 19) L.out)
theorem look_21 (w : World) : Calls Tryz.prog 211 #[.int .i64 21] w (LookP w 21) := by
  have L0 := Lib.hid (LkW.made w [1, 2, 15] #[.int .i64 1, .int .i64 2, .int .i64 15] rfl)
  go_enter Tryz.func211, Tryz.ntmps211
  go_wp2_with fail
  refine (lk_of _ 3 3 5 _).mono ?_
  rintro e w2 ⟨rfl, hb⟩
  have L := Lib.hid (L0.out.call hb)
  clear hb L0
  have f0 := L.out.fr 0
  have f1 := L.out.fr 1
  have f2 := L.out.fr 2
  have f3 := L.out.fr 3
  have r0 := L.out.r 0
  have r1 := L.out.r 1
  have r2 := L.out.r 2
  have r3 := L.out.r 3
  go_wp2_with fail
  exact pc_ret_row rfl rfl rfl rfl (st4_block L.out.2.2.1 _ _ _ _) (LkW.fin (id := 21) L.out)
theorem look_22 (w : World) : Calls Tryz.prog 211 #[.int .i64 22] w (LookP w 22) := by
  have L0 := Lib.hid (LkW.made w [1, 2, 15] #[.int .i64 1, .int .i64 2, .int .i64 15] rfl)
  go_enter Tryz.func211, Tryz.ntmps211
  go_wp2_with fail
  refine (lk_of _ 3 3 6 _).mono ?_
  rintro e w2 ⟨rfl, hb⟩
  have L := Lib.hid (L0.out.call hb)
  clear hb L0
  have f0 := L.out.fr 0
  have f1 := L.out.fr 1
  have f2 := L.out.fr 2
  have f3 := L.out.fr 3
  have r0 := L.out.r 0
  have r1 := L.out.r 1
  have r2 := L.out.r 2
  have r3 := L.out.r 3
  go_wp2_with fail
  exact pc_ret_row rfl rfl rfl rfl (st4_block L.out.2.2.1 _ _ _ _) (LkW.fin (id := 22) L.out)
theorem look_23 (w : World) : Calls Tryz.prog 211 #[.int .i64 23] w (LookP w 23) := by
  have L0 := Lib.hid (LkW.made w [1] #[.int .i64 1] rfl)
  go_enter Tryz.func211, Tryz.ntmps211
  go_wp2_with fail
  refine (lk_one _ 1 1 0 _).mono ?_
  rintro e w2 ⟨rfl, hb⟩
  have L := Lib.hid (L0.out.call hb)
  clear hb L0
  have f0 := L.out.fr 0
  have f1 := L.out.fr 1
  have f2 := L.out.fr 2
  have f3 := L.out.fr 3
  have r0 := L.out.r 0
  have r1 := L.out.r 1
  have r2 := L.out.r 2
  have r3 := L.out.r 3
  go_wp2_with fail
  exact pc_ret_row rfl rfl rfl rfl (st4_block L.out.2.2.1 _ _ _ _) (LkW.fin (id := 23) L.out)
theorem look_25 (w : World) : Calls Tryz.prog 211 #[.int .i64 25] w (LookP w 25) := by
  have L0 := Lib.hid (LkW.made w [1] #[.int .i64 1] rfl)
  go_enter Tryz.func211, Tryz.ntmps211
  go_wp2_with fail
  refine (lk_one _ 1 1 0 _).mono ?_
  rintro e w2 ⟨rfl, hb⟩
  have L := Lib.hid (L0.out.call hb)
  clear hb L0
  have f0 := L.out.fr 0
  have f1 := L.out.fr 1
  have f2 := L.out.fr 2
  have f3 := L.out.fr 3
  have r0 := L.out.r 0
  have r1 := L.out.r 1
  have r2 := L.out.r 2
  have r3 := L.out.r 3
  go_wp2_with fail
  exact pc_ret_row rfl rfl rfl rfl (st4_block L.out.2.2.1 _ _ _ _) (LkW.fin (id := 25) L.out)
theorem look_24 (w : World) : Calls Tryz.prog 211 #[.int .i64 24] w (LookP w 24) := by
  have L0 := Lib.hid (LkW.made w [16] #[.int .i64 16] rfl)
  go_enter Tryz.func211, Tryz.ntmps211
  go_wp2_with fail
  refine (lk_four _ 1 1 0 _).mono ?_
  rintro e w2 ⟨rfl, hb⟩
  have L := Lib.hid (L0.out.call hb)
  clear hb L0
  have f0 := L.out.fr 0
  have f1 := L.out.fr 1
  have f2 := L.out.fr 2
  have f3 := L.out.fr 3
  have r0 := L.out.r 0
  have r1 := L.out.r 1
  have r2 := L.out.r 2
  have r3 := L.out.r 3
  go_wp2_with fail
  exact pc_ret_row rfl rfl rfl rfl (st4_block L.out.2.2.1 _ _ _ _) (LkW.fin (id := 24) L.out)
theorem look_28 (w : World) : Calls Tryz.prog 211 #[.int .i64 28] w (LookP w 28) := by
  have L0 := Lib.hid (LkW.made w [2, 14] #[.int .i64 2, .int .i64 14] rfl)
  go_enter Tryz.func211, Tryz.ntmps211
  go_wp2_with fail
  refine (lk_of _ 2 2 5 _).mono ?_
  rintro e w2 ⟨rfl, hb⟩
  have L := Lib.hid (L0.out.call hb)
  clear hb L0
  have f0 := L.out.fr 0
  have f1 := L.out.fr 1
  have f2 := L.out.fr 2
  have f3 := L.out.fr 3
  have r0 := L.out.r 0
  have r1 := L.out.r 1
  have r2 := L.out.r 2
  have r3 := L.out.r 3
  go_wp2_with fail
  exact pc_ret_row rfl rfl rfl rfl (st4_block L.out.2.2.1 _ _ _ _) (LkW.fin (id := 28) L.out)
theorem look_31 (w : World) : Calls Tryz.prog 211 #[.int .i64 31] w (LookP w 31) := by
  have L0 := Lib.hid (LkW.made w [2, 4, 5, 6, 7, 9, 11, 14, 15] #[.int .i64 2, .int .i64 4, .int .i64 5, .int .i64 6, .int .i64 7, .int .i64 9, .int .i64 11, .int .i64 14, .int .i64 15] rfl)
  go_enter Tryz.func211, Tryz.ntmps211
  go_wp2_with fail
  refine (lk_of _ 9 9 5 _).mono ?_
  rintro e w2 ⟨rfl, hb⟩
  have L := Lib.hid (L0.out.call hb)
  clear hb L0
  have f0 := L.out.fr 0
  have f1 := L.out.fr 1
  have f2 := L.out.fr 2
  have f3 := L.out.fr 3
  have r0 := L.out.r 0
  have r1 := L.out.r 1
  have r2 := L.out.r 2
  have r3 := L.out.r 3
  go_wp2_with fail
  exact pc_ret_row rfl rfl rfl rfl (st4_block L.out.2.2.1 _ _ _ _) (LkW.fin (id := 31) L.out)
theorem look_33 (w : World) : Calls Tryz.prog 211 #[.int .i64 33] w (LookP w 33) := by
  have L0 := Lib.hid (LkW.made w [1, 2] #[.int .i64 1, .int .i64 2] rfl)
  go_enter Tryz.func211, Tryz.ntmps211
  go_wp2_with fail
  refine (lk_two _ 2 2 1 _).mono ?_
  rintro e w2 ⟨rfl, hb⟩
  have L := Lib.hid (L0.out.call hb)
  clear hb L0
  have f0 := L.out.fr 0
  have f1 := L.out.fr 1
  have f2 := L.out.fr 2
  have f3 := L.out.fr 3
  have r0 := L.out.r 0
  have r1 := L.out.r 1
  have r2 := L.out.r 2
  have r3 := L.out.r 3
  go_wp2_with fail
  exact pc_ret_row rfl rfl rfl rfl (st4_block L.out.2.2.1 _ _ _ _) (LkW.fin (id := 33) L.out)
theorem look_34 (w : World) : Calls Tryz.prog 211 #[.int .i64 34] w (LookP w 34) := by
  have L0 := Lib.hid (LkW.made w [1, 2] #[.int .i64 1, .int .i64 2] rfl)
  go_enter Tryz.func211, Tryz.ntmps211
  go_wp2_with fail
  refine (lk_two _ 2 2 0 _).mono ?_
  rintro e w2 ⟨rfl, hb⟩
  have L := Lib.hid (L0.out.call hb)
  clear hb L0
  have f0 := L.out.fr 0
  have f1 := L.out.fr 1
  have f2 := L.out.fr 2
  have f3 := L.out.fr 3
  have r0 := L.out.r 0
  have r1 := L.out.r 1
  have r2 := L.out.r 2
  have r3 := L.out.r 3
  go_wp2_with fail
  exact pc_ret_row rfl rfl rfl rfl (st4_block L.out.2.2.1 _ _ _ _) (LkW.fin (id := 34) L.out)
theorem look_35 (w : World) : Calls Tryz.prog 211 #[.int .i64 35] w (LookP w 35) := by
  have L0 := Lib.hid (LkW.made w [3] #[.int .i64 3] rfl)
  go_enter Tryz.func211, Tryz.ntmps211
  go_wp2_with fail
  refine (lk_two _ 1 1 1 _).mono ?_
  rintro e w2 ⟨rfl, hb⟩
  have L := Lib.hid (L0.out.call hb)
  clear hb L0
  have f0 := L.out.fr 0
  have f1 := L.out.fr 1
  have f2 := L.out.fr 2
  have f3 := L.out.fr 3
  have r0 := L.out.r 0
  have r1 := L.out.r 1
  have r2 := L.out.r 2
  have r3 := L.out.r 3
  go_wp2_with fail
  exact pc_ret_row rfl rfl rfl rfl (st4_block L.out.2.2.1 _ _ _ _) (LkW.fin (id := 35) L.out)
theorem look_36 (w : World) : Calls Tryz.prog 211 #[.int .i64 36] w (LookP w 36) := by
  have L0 := Lib.hid (LkW.made w [2] #[.int .i64 2] rfl)
  go_enter Tryz.func211, Tryz.ntmps211
  go_wp2_with fail
  refine (lk_one _ 1 1 0 _).mono ?_
  rintro e w2 ⟨rfl, hb⟩
  have L := Lib.hid (L0.out.call hb)
  clear hb L0
  have f0 := L.out.fr 0
  have f1 := L.out.fr 1
  have f2 := L.out.fr 2
  have f3 := L.out.fr 3
  have r0 := L.out.r 0
  have r1 := L.out.r 1
  have r2 := L.out.r 2
  have r3 := L.out.r 3
  go_wp2_with fail
  exact pc_ret_row rfl rfl rfl rfl (st4_block L.out.2.2.1 _ _ _ _) (LkW.fin (id := 36) L.out)
theorem look_37 (w : World) : Calls Tryz.prog 211 #[.int .i64 37] w (LookP w 37) := by
  have L0 := Lib.hid (LkW.made w [2] #[.int .i64 2] rfl)
  go_enter Tryz.func211, Tryz.ntmps211
  go_wp2_with fail
  refine (lk_one _ 1 1 0 _).mono ?_
  rintro e w2 ⟨rfl, hb⟩
  have L := Lib.hid (L0.out.call hb)
  clear hb L0
  have f0 := L.out.fr 0
  have f1 := L.out.fr 1
  have f2 := L.out.fr 2
  have f3 := L.out.fr 3
  have r0 := L.out.r 0
  have r1 := L.out.r 1
  have r2 := L.out.r 2
  have r3 := L.out.r 3
  go_wp2_with fail
  exact pc_ret_row rfl rfl rfl rfl (st4_block L.out.2.2.1 _ _ _ _) (LkW.fin (id := 37) L.out)
theorem look_40 (w : World) : Calls Tryz.prog 211 #[.int .i64 40] w (LookP w 40) := by
  have L0 := Lib.hid (LkW.made w [2] #[.int .i64 2] rfl)
  go_enter Tryz.func211, Tryz.ntmps211
  go_wp2_with fail
  refine (lk_one _ 1 1 0 _).mono ?_
  rintro e w2 ⟨rfl, hb⟩
  have L := Lib.hid (L0.out.call hb)
  clear hb L0
  have f0 := L.out.fr 0
  have f1 := L.out.fr 1
  have f2 := L.out.fr 2
  have f3 := L.out.fr 3
  have r0 := L.out.r 0
  have r1 := L.out.r 1
  have r2 := L.out.r 2
  have r3 := L.out.r 3
  go_wp2_with fail
  exact pc_ret_row rfl rfl rfl rfl (st4_block L.out.2.2.1 _ _ _ _) (LkW.fin (id := 40) L.out)
theorem look_41 (w : World) : Calls Tryz.prog 211 #[.int .i64 41] w (LookP w 41) := by
  have L0 := Lib.hid (LkW.made w [2] #[.int .i64 2] rfl)
  go_enter Tryz.func211, Tryz.ntmps211
  go_wp2_with fail
  refine (lk_one _ 1 1 0 _).mono ?_
  rintro e w2 ⟨rfl, hb⟩
  have L := Lib.hid (L0.out.call hb)
  clear hb L0
  have f0 := L.out.fr 0
  have f1 := L.out.fr 1
  have f2 := L.out.fr 2
  have f3 := L.out.fr 3
  have r0 := L.out.r 0
  have r1 := L.out.r 1
  have r2 := L.out.r 2
  have r3 := L.out.r 3
  go_wp2_with fail
  exact pc_ret_row rfl rfl rfl rfl (st4_block L.out.2.2.1 _ _ _ _) (LkW.fin (id := 41) L.out)
theorem look_42 (w : World) : Calls Tryz.prog 211 #[.int .i64 42] w (LookP w 42) := by
  have L0 := Lib.hid (LkW.made w [2] #[.int .i64 2] rfl)
  go_enter Tryz.func211, Tryz.ntmps211
  go_wp2_with fail
  refine (lk_one _ 1 1 0 _).mono ?_
  rintro e w2 ⟨rfl, hb⟩
  have L := Lib.hid (L0.out.call hb)
  clear hb L0
  have f0 := L.out.fr 0
  have f1 := L.out.fr 1
  have f2 := L.out.fr 2
  have f3 := L.out.fr 3
  have r0 := L.out.r 0
  have r1 := L.out.r 1
  have r2 := L.out.r 2
  have r3 := L.out.r 3
  go_wp2_with fail
  exact pc_ret_row rfl rfl rfl rfl (st4_block L.out.2.2.1 _ _ _ _) (LkW.fin (id := 42) L.out)
theorem look_38 (w : World) : Calls Tryz.prog 211 #[.int .i64 38] w (LookP w 38) := by
  have L0 := Lib.hid (LkW.made w [1, 2, 3, 4, 5, 6, 7, 8, 9, 10, 11, 14, 15, 16] #[.int .i64 1, .int .i64 2, .int .i64 3, .int .i64 4, .int .i64 5, .int .i64 6, .int .i64 7, .int .i64 8, .int .i64 9, .int .i64 10, .int .i64 11, .int .i64 14, .int .i64 15, .int .i64 16] rfl)
  go_enter Tryz.func211, Tryz.ntmps211
  go_wp2_with fail
  refine (lk_of _ 14 14 7 _).mono ?_
  rintro e w2 ⟨rfl, hb⟩
  have L := Lib.hid (L0.out.call hb)
  clear hb L0
  have f0 := L.out.fr 0
  have f1 := L.out.fr 1
  have f2 := L.out.fr 2
  have f3 := L.out.fr 3
  have r0 := L.out.r 0
  have r1 := L.out.r 1
  have r2 := L.out.r 2
  have r3 := L.out.r 3
  go_wp2_with fail
  exact pc_ret_row rfl rfl rfl rfl (st4_block L.out.2.2.1 _ _ _ _) (LkW.fin (id := 38) L.out)
theorem look_39 (w : World) : Calls Tryz.prog 211 #[.int .i64 39] w (LookP w 39) := by
  have L0 := Lib.hid (LkW.made w [1, 2] #[.int .i64 1, .int .i64 2] rfl)
  go_enter Tryz.func211, Tryz.ntmps211
  go_wp2_with fail
  refine (lk_four _ 2 2 1 _).mono ?_
  rintro e w2 ⟨rfl, hb⟩
  have L := Lib.hid (L0.out.call hb)
  clear hb L0
  have f0 := L.out.fr 0
  have f1 := L.out.fr 1
  have f2 := L.out.fr 2
  have f3 := L.out.fr 3
  have r0 := L.out.r 0
  have r1 := L.out.r 1
  have r2 := L.out.r 2
  have r3 := L.out.r 3
  go_wp2_with fail
  exact pc_ret_row rfl rfl rfl rfl (st4_block L.out.2.2.1 _ _ _ _) (LkW.fin (id := 39) L.out)
theorem prow_none {id : Int} (h : id ∉ [1, 2, 3, 8, 9, 11, 17, 18, 26, 19, 21, 22, 23, 25, 24, 28, 31, 33, 34, 35, 36, 37, 40, 41, 42, 38, 39]) : prow id = ⟨0, [], 0, 0⟩ := by
  simp only [List.mem_cons, List.not_mem_nil, or_false, not_or] at h
  unfold prow
  repeat rw [if_neg (by omega)]
theorem look_none (id : Int) (w : World) (h : id ∉ [1, 2, 3, 8, 9, 11, 17, 18, 26, 19, 21, 22, 23, 25, 24, 28, 31, 33, 34, 35, 36, 37, 40, 41, 42, 38, 39]) : Calls Tryz.prog 211 #[.int .i64 id] w (LookP w id) := by
  have P := Lib.hid (prow_none h)
  simp only [List.mem_cons, List.not_mem_nil, or_false, not_or] at h
  obtain ⟨h1, h2, h3, h8, h9, h11, h17, h18, h26, h19, h21, h22, h23, h25, h24, h28, h31, h33, h34, h35, h36, h37, h40, h41, h42, h38, h39⟩ := h
  have g1 : (id == 1) = false := by simpa using h1
  have g2 : (id == 2) = false := by simpa using h2
  have g3 : (id == 3) = false := by simpa using h3
  have g8 : (id == 8) = false := by simpa using h8
  have g9 : (id == 9) = false := by simpa using h9
  have g11 : (id == 11) = false := by simpa using h11
  have g17 : (id == 17) = false := by simpa using h17
  have g18 : (id == 18) = false := by simpa using h18
  have g26 : (id == 26) = false := by simpa using h26
  have g19 : (id == 19) = false := by simpa using h19
  have g21 : (id == 21) = false := by simpa using h21
  have g22 : (id == 22) = false := by simpa using h22
  have g23 : (id == 23) = false := by simpa using h23
  have g25 : (id == 25) = false := by simpa using h25
  have g24 : (id == 24) = false := by simpa using h24
  have g28 : (id == 28) = false := by simpa using h28
  have g31 : (id == 31) = false := by simpa using h31
  have g33 : (id == 33) = false := by simpa using h33
  have g34 : (id == 34) = false := by simpa using h34
  have g35 : (id == 35) = false := by simpa using h35
  have g36 : (id == 36) = false := by simpa using h36
  have g37 : (id == 37) = false := by simpa using h37
  have g40 : (id == 40) = false := by simpa using h40
  have g41 : (id == 41) = false := by simpa using h41
  have g42 : (id == 42) = false := by simpa using h42
  have g38 : (id == 38) = false := by simpa using h38
  have g39 : (id == 39) = false := by simpa using h39
  clear h1 h2 h3 h8 h9 h11 h17 h18 h26 h19 h21 h22 h23 h25 h24 h28 h31 h33 h34 h35 h36 h37 h40 h41 h42 h38 h39
  go_enter Tryz.func211, Tryz.ntmps211
  go_wp2_with fail
  refine pc_ret_row rfl rfl rfl rfl (heap_alloc_new w _) ?_
  unfold LookP
  rw [P.out]
  exact ⟨none, rfl, (Below.refl _ _).alloc (Nat.le_refl _) _, .inl rfl⟩
theorem look_any (id : Int) (w : World) : Calls Tryz.prog 211 #[.int .i64 id] w (LookP w id) := by
  by_cases h : id ∈ [1, 2, 3, 8, 9, 11, 17, 18, 26, 19, 21, 22, 23, 25, 24, 28, 31, 33, 34, 35, 36, 37, 40, 41, 42, 38, 39]
  · simp only [List.mem_cons, List.not_mem_nil, or_false] at h
    rcases h with rfl | rfl | rfl | rfl | rfl | rfl | rfl | rfl | rfl | rfl | rfl | rfl | rfl | rfl | rfl | rfl | rfl | rfl | rfl | rfl | rfl | rfl | rfl | rfl | rfl | rfl | rfl
    · exact look_1 w
    · exact look_2 w
    · exact look_3 w
    · exact look_8 w
    · exact look_9 w
    · exact look_11 w
    · exact look_17 w
    · exact look_18 w
    · exact look_26 w
    · exact look_19 w
    · exact look_21 w
    · exact look_22 w
    · exact look_23 w
    · exact look_25 w
    · exact look_24 w
    · exact look_28 w
    · exact look_31 w
    · exact look_33 w
    · exact look_34 w
    · exact look_35 w
    · exact look_36 w
    · exact look_37 w
    · exact look_40 w
    · exact look_41 w
    · exact look_42 w
    · exact look_38 w
    · exact look_39 w
  · exact look_none id w h
end Go.Proofs.YtaahhbjnflimnaaGreat
