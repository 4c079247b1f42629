/-
  What a kind may have: reason.codes. Condition: none.
-/
import Derived.Test.YtbgpcmbaodjibaaK24
namespace Go.Proofs.Ytbgpcmbaodjibaa
open Go.RowKit

theorem cells_lit (W : World) (l : List Nat) (t : TypeId) (cs : Array Value) (h : cs = (l.map fun (x : Nat) => Value.int .i64 (x : Int)).toArray) (i x : Nat) (hx : l[i]? = some x) :
    (W.alloc (.cells cs t)).cell? ⟨W.heap.size, i, none⟩ = some (.int .i64 (x : Int)) := by
  rw [World.cell?_alloc_at _ _ _ _ rfl, h]
  simp [hx]
set_option maxRecDepth 100000 in
theorem codes_2 (w : World) :
    Calls Try.prog 61 #[.int .i64 2] w fun e w' => e = .returned (V4 (wordsG 1)) ∧ Below w.heap.size w w' := by
  have H0 := Lib.hid (heap_alloc_new w (.cells #[.int .u64 0, .int .u64 0, .int .u64 0, .int .u64 0] 107))
  have L0 := Lib.hid (show Below w.heap.size w (w.alloc (.cells #[.int .u64 0, .int .u64 0, .int .u64 0, .int .u64 0] 107)) from (Below.refl _ _).alloc (Nat.le_refl _) _)
  go_enter Try.func61, Try.ntmps61
  go_wp2_with fail
  refine (of_any (w.heap.size + 1) [0, 140, 144, 149, 151, 159] 6 6 _ rfl (by decide) (by decide) (by have := cells_lit (w.alloc (.cells #[.int .u64 0, .int .u64 0, .int .u64 0, .int .u64 0] 107)) [0, 140, 144, 149, 151, 159] 3 #[.int .i64 0, .int .i64 140, .int .i64 144, .int .i64 149, .int .i64 151, .int .i64 159] rfl; rw [World.size_alloc] at this; exact this) (by simp)).mono ?_
  rintro e w1 ⟨rfl, hb⟩
  have L1 := Lib.hid ((L0.out.alloc (by simp) (.cells #[.int .i64 0, .int .i64 140, .int .i64 144, .int .i64 149, .int .i64 151, .int .i64 159] 3)).trans (hb.mono (by simp only [World.size_alloc]; omega)))
  have H1 := (hb.block _ (by simp only [World.size_alloc]; omega)).trans ((heap_alloc_old _ (.cells #[.int .i64 0, .int .i64 140, .int .i64 144, .int .i64 149, .int .i64 151, .int .i64 159] 3) (by simp)).trans H0.out)
  clear hb
  unfold V4 at *
  go_wp2_with fail
  refine (and_any (ofL [0, 140, 144, 149, 151, 159]) 128 11 138 (OkW.ofL _) (by decide) (by decide) _).mono ?_
  rintro e w2 ⟨rfl, hb⟩
  have L2 := Lib.hid (L1.out.trans (hb.mono L1.out.size))
  have H2 := (hb.block _ (lt_of_block H1)).trans H1
  clear hb H1
  unfold V4 at *
  go_wp2_with fail
  refine (and_any (addR (ofL [0, 140, 144, 149, 151, 159]) 128 11) 153 5 157 ((OkW.ofL _).addR _ _) (by decide) (by decide) _).mono ?_
  rintro e w3 ⟨rfl, hb⟩
  have L3 := Lib.hid (L2.out.trans (hb.mono L2.out.size))
  have H3 := (hb.block _ (lt_of_block H2)).trans H2
  clear hb H2
  have LW := Lib.hid (below_setRow L3.out (Nat.le_refl w.heap.size) (C4 (addR (addR (ofL [0, 140, 144, 149, 151, 159]) 128 11) 153 5)))
  unfold V4
  generalize hX : (addR (addR (ofL [0, 140, 144, 149, 151, 159]) 128 11) 153 5) = X
  rw [hX] at LW
  go_wp2_with (refine wpList_store_row rfl _ _ _ rfl w.heap.size _ rfl rfl 107 _ H3 info_set rfl (by simp [Value.oneCell']) ?_)
  exact ret_set rfl rfl rfl rfl (setRow_heap _ _ _ _ _ _ H3) ⟨by rw [← hX]; rfl, LW.out⟩
set_option maxRecDepth 100000 in
theorem codes_4 (w : World) :
    Calls Try.prog 61 #[.int .i64 4] w fun e w' => e = .returned (V4 (wordsG 2)) ∧ Below w.heap.size w w' := by
  have H0 := Lib.hid (heap_alloc_new w (.cells #[.int .u64 0, .int .u64 0, .int .u64 0, .int .u64 0] 107))
  have L0 := Lib.hid (show Below w.heap.size w (w.alloc (.cells #[.int .u64 0, .int .u64 0, .int .u64 0, .int .u64 0] 107)) from (Below.refl _ _).alloc (Nat.le_refl _) _)
  go_enter Try.func61, Try.ntmps61
  go_wp2_with fail
  refine (of_any (w.heap.size + 1) [0, 16, 128, 131, 135, 144, 145, 151, 153] 9 9 _ rfl (by decide) (by decide) (by have := cells_lit (w.alloc (.cells #[.int .u64 0, .int .u64 0, .int .u64 0, .int .u64 0] 107)) [0, 16, 128, 131, 135, 144, 145, 151, 153] 3 #[.int .i64 0, .int .i64 16, .int .i64 128, .int .i64 131, .int .i64 135, .int .i64 144, .int .i64 145, .int .i64 151, .int .i64 153] rfl; rw [World.size_alloc] at this; exact this) (by simp)).mono ?_
  rintro e w1 ⟨rfl, hb⟩
  have L1 := Lib.hid ((L0.out.alloc (by simp) (.cells #[.int .i64 0, .int .i64 16, .int .i64 128, .int .i64 131, .int .i64 135, .int .i64 144, .int .i64 145, .int .i64 151, .int .i64 153] 3)).trans (hb.mono (by simp only [World.size_alloc]; omega)))
  have H1 := (hb.block _ (by simp only [World.size_alloc]; omega)).trans ((heap_alloc_old _ (.cells #[.int .i64 0, .int .i64 16, .int .i64 128, .int .i64 131, .int .i64 135, .int .i64 144, .int .i64 145, .int .i64 151, .int .i64 153] 3) (by simp)).trans H0.out)
  clear hb
  have LW := Lib.hid (below_setRow L1.out (Nat.le_refl w.heap.size) (C4 (ofL [0, 16, 128, 131, 135, 144, 145, 151, 153])))
  unfold V4
  generalize hX : (ofL [0, 16, 128, 131, 135, 144, 145, 151, 153]) = X
  rw [hX] at LW
  go_wp2_with (refine wpList_store_row rfl _ _ _ rfl w.heap.size _ rfl rfl 107 _ H1 info_set rfl (by simp [Value.oneCell']) ?_)
  exact ret_set rfl rfl rfl rfl (setRow_heap _ _ _ _ _ _ H1) ⟨by rw [← hX]; rfl, LW.out⟩
set_option maxRecDepth 100000 in
theorem codes_5 (w : World) :
    Calls Try.prog 61 #[.int .i64 5] w fun e w' => e = .returned (V4 (wordsG 2)) ∧ Below w.heap.size w w' := by
  have H0 := Lib.hid (heap_alloc_new w (.cells #[.int .u64 0, .int .u64 0, .int .u64 0, .int .u64 0] 107))
  have L0 := Lib.hid (show Below w.heap.size w (w.alloc (.cells #[.int .u64 0, .int .u64 0, .int .u64 0, .int .u64 0] 107)) from (Below.refl _ _).alloc (Nat.le_refl _) _)
  go_enter Try.func61, Try.ntmps61
  go_wp2_with fail
  refine (of_any (w.heap.size + 1) [0, 16, 128, 131, 135, 144, 145, 151, 153] 9 9 _ rfl (by decide) (by decide) (by have := cells_lit (w.alloc (.cells #[.int .u64 0, .int .u64 0, .int .u64 0, .int .u64 0] 107)) [0, 16, 128, 131, 135, 144, 145, 151, 153] 3 #[.int .i64 0, .int .i64 16, .int .i64 128, .int .i64 131, .int .i64 135, .int .i64 144, .int .i64 145, .int .i64 151, .int .i64 153] rfl; rw [World.size_alloc] at this; exact this) (by simp)).mono ?_
  rintro e w1 ⟨rfl, hb⟩
  have L1 := Lib.hid ((L0.out.alloc (by simp) (.cells #[.int .i64 0, .int .i64 16, .int .i64 128, .int .i64 131, .int .i64 135, .int .i64 144, .int .i64 145, .int .i64 151, .int .i64 153] 3)).trans (hb.mono (by simp only [World.size_alloc]; omega)))
  have H1 := (hb.block _ (by simp only [World.size_alloc]; omega)).trans ((heap_alloc_old _ (.cells #[.int .i64 0, .int .i64 16, .int .i64 128, .int .i64 131, .int .i64 135, .int .i64 144, .int .i64 145, .int .i64 151, .int .i64 153] 3) (by simp)).trans H0.out)
  clear hb
  have LW := Lib.hid (below_setRow L1.out (Nat.le_refl w.heap.size) (C4 (ofL [0, 16, 128, 131, 135, 144, 145, 151, 153])))
  unfold V4
  generalize hX : (ofL [0, 16, 128, 131, 135, 144, 145, 151, 153]) = X
  rw [hX] at LW
  go_wp2_with (refine wpList_store_row rfl _ _ _ rfl w.heap.size _ rfl rfl 107 _ H1 info_set rfl (by simp [Value.oneCell']) ?_)
  exact ret_set rfl rfl rfl rfl (setRow_heap _ _ _ _ _ _ H1) ⟨by rw [← hX]; rfl, LW.out⟩
set_option maxRecDepth 100000 in
theorem codes_6 (w : World) :
    Calls Try.prog 61 #[.int .i64 6] w fun e w' => e = .returned (V4 (wordsG 3)) ∧ Below w.heap.size w w' := by
  have H0 := Lib.hid (heap_alloc_new w (.cells #[.int .u64 0, .int .u64 0, .int .u64 0, .int .u64 0] 107))
  have L0 := Lib.hid (show Below w.heap.size w (w.alloc (.cells #[.int .u64 0, .int .u64 0, .int .u64 0, .int .u64 0] 107)) from (Below.refl _ _).alloc (Nat.le_refl _) _)
  go_enter Try.func61, Try.ntmps61
  go_wp2_with fail
  refine (of_any (w.heap.size + 1) [0, 146] 2 2 _ rfl (by decide) (by decide) (by have := cells_lit (w.alloc (.cells #[.int .u64 0, .int .u64 0, .int .u64 0, .int .u64 0] 107)) [0, 146] 3 #[.int .i64 0, .int .i64 146] rfl; rw [World.size_alloc] at this; exact this) (by simp)).mono ?_
  rintro e w1 ⟨rfl, hb⟩
  have L1 := Lib.hid ((L0.out.alloc (by simp) (.cells #[.int .i64 0, .int .i64 146] 3)).trans (hb.mono (by simp only [World.size_alloc]; omega)))
  have H1 := (hb.block _ (by simp only [World.size_alloc]; omega)).trans ((heap_alloc_old _ (.cells #[.int .i64 0, .int .i64 146] 3) (by simp)).trans H0.out)
  clear hb
  have LW := Lib.hid (below_setRow L1.out (Nat.le_refl w.heap.size) (C4 (ofL [0, 146])))
  unfold V4
  generalize hX : (ofL [0, 146]) = X
  rw [hX] at LW
  go_wp2_with (refine wpList_store_row rfl _ _ _ rfl w.heap.size _ rfl rfl 107 _ H1 info_set rfl (by simp [Value.oneCell']) ?_)
  exact ret_set rfl rfl rfl rfl (setRow_heap _ _ _ _ _ _ H1) ⟨by rw [← hX]; rfl, LW.out⟩
set_option maxRecDepth 100000 in
theorem codes_7 (w : World) :
    Calls Try.prog 61 #[.int .i64 7] w fun e w' => e = .returned (V4 (wordsG 3)) ∧ Below w.heap.size w w' := by
  have H0 := Lib.hid (heap_alloc_new w (.cells #[.int .u64 0, .int .u64 0, .int .u64 0, .int .u64 0] 107))
  have L0 := Lib.hid (show Below w.heap.size w (w.alloc (.cells #[.int .u64 0, .int .u64 0, .int .u64 0, .int .u64 0] 107)) from (Below.refl _ _).alloc (Nat.le_refl _) _)
  go_enter Try.func61, Try.ntmps61
  go_wp2_with fail
  refine (of_any (w.heap.size + 1) [0, 146] 2 2 _ rfl (by decide) (by decide) (by have := cells_lit (w.alloc (.cells #[.int .u64 0, .int .u64 0, .int .u64 0, .int .u64 0] 107)) [0, 146] 3 #[.int .i64 0, .int .i64 146] rfl; rw [World.size_alloc] at this; exact this) (by simp)).mono ?_
  rintro e w1 ⟨rfl, hb⟩
  have L1 := Lib.hid ((L0.out.alloc (by simp) (.cells #[.int .i64 0, .int .i64 146] 3)).trans (hb.mono (by simp only [World.size_alloc]; omega)))
  have H1 := (hb.block _ (by simp only [World.size_alloc]; omega)).trans ((heap_alloc_old _ (.cells #[.int .i64 0, .int .i64 146] 3) (by simp)).trans H0.out)
  clear hb
  have LW := Lib.hid (below_setRow L1.out (Nat.le_refl w.heap.size) (C4 (ofL [0, 146])))
  unfold V4
  generalize hX : (ofL [0, 146]) = X
  rw [hX] at LW
  go_wp2_with (refine wpList_store_row rfl _ _ _ rfl w.heap.size _ rfl rfl 107 _ H1 info_set rfl (by simp [Value.oneCell']) ?_)
  exact ret_set rfl rfl rfl rfl (setRow_heap _ _ _ _ _ _ H1) ⟨by rw [← hX]; rfl, LW.out⟩
set_option maxRecDepth 100000 in
theorem codes_9 (w : World) :
    Calls Try.prog 61 #[.int .i64 9] w fun e w' => e = .returned (V4 (wordsG 4)) ∧ Below w.heap.size w w' := by
  have H0 := Lib.hid (heap_alloc_new w (.cells #[.int .u64 0, .int .u64 0, .int .u64 0, .int .u64 0] 107))
  have L0 := Lib.hid (show Below w.heap.size w (w.alloc (.cells #[.int .u64 0, .int .u64 0, .int .u64 0, .int .u64 0] 107)) from (Below.refl _ _).alloc (Nat.le_refl _) _)
  go_enter Try.func61, Try.ntmps61
  go_wp2_with fail
  refine (of_any (w.heap.size + 1) [0, 1, 2, 128, 131, 135, 143, 145, 151, 158, 161, 162] 12 12 _ rfl (by decide) (by decide) (by have := cells_lit (w.alloc (.cells #[.int .u64 0, .int .u64 0, .int .u64 0, .int .u64 0] 107)) [0, 1, 2, 128, 131, 135, 143, 145, 151, 158, 161, 162] 3 #[.int .i64 0, .int .i64 1, .int .i64 2, .int .i64 128, .int .i64 131, .int .i64 135, .int .i64 143, .int .i64 145, .int .i64 151, .int .i64 158, .int .i64 161, .int .i64 162] rfl; rw [World.size_alloc] at this; exact this) (by simp)).mono ?_
  rintro e w1 ⟨rfl, hb⟩
  have L1 := Lib.hid ((L0.out.alloc (by simp) (.cells #[.int .i64 0, .int .i64 1, .int .i64 2, .int .i64 128, .int .i64 131, .int .i64 135, .int .i64 143, .int .i64 145, .int .i64 151, .int .i64 158, .int .i64 161, .int .i64 162] 3)).trans (hb.mono (by simp only [World.size_alloc]; omega)))
  have H1 := (hb.block _ (by simp only [World.size_alloc]; omega)).trans ((heap_alloc_old _ (.cells #[.int .i64 0, .int .i64 1, .int .i64 2, .int .i64 128, .int .i64 131, .int .i64 135, .int .i64 143, .int .i64 145, .int .i64 151, .int .i64 158, .int .i64 161, .int .i64 162] 3) (by simp)).trans H0.out)
  clear hb
  have LW := Lib.hid (below_setRow L1.out (Nat.le_refl w.heap.size) (C4 (ofL [0, 1, 2, 128, 131, 135, 143, 145, 151, 158, 161, 162])))
  unfold V4
  generalize hX : (ofL [0, 1, 2, 128, 131, 135, 143, 145, 151, 158, 161, 162]) = X
  rw [hX] at LW
  go_wp2_with (refine wpList_store_row rfl _ _ _ rfl w.heap.size _ rfl rfl 107 _ H1 info_set rfl (by simp [Value.oneCell']) ?_)
  exact ret_set rfl rfl rfl rfl (setRow_heap _ _ _ _ _ _ H1) ⟨by rw [← hX]; rfl, LW.out⟩
set_option maxRecDepth 100000 in
theorem codes_11 (w : World) :
    Calls Try.prog 61 #[.int .i64 11] w fun e w' => e = .returned (V4 (wordsG 5)) ∧ Below w.heap.size w w' := by
  have H0 := Lib.hid (heap_alloc_new w (.cells #[.int .u64 0, .int .u64 0, .int .u64 0, .int .u64 0] 107))
  have L0 := Lib.hid (show Below w.heap.size w (w.alloc (.cells #[.int .u64 0, .int .u64 0, .int .u64 0, .int .u64 0] 107)) from (Below.refl _ _).alloc (Nat.le_refl _) _)
  go_enter Try.func61, Try.ntmps61
  go_wp2_with fail
  refine (of_any (w.heap.size + 1) [0, 17, 128, 131, 135, 143, 145] 7 7 _ rfl (by decide) (by decide) (by have := cells_lit (w.alloc (.cells #[.int .u64 0, .int .u64 0, .int .u64 0, .int .u64 0] 107)) [0, 17, 128, 131, 135, 143, 145] 3 #[.int .i64 0, .int .i64 17, .int .i64 128, .int .i64 131, .int .i64 135, .int .i64 143, .int .i64 145] rfl; rw [World.size_alloc] at this; exact this) (by simp)).mono ?_
  rintro e w1 ⟨rfl, hb⟩
  have L1 := Lib.hid ((L0.out.alloc (by simp) (.cells #[.int .i64 0, .int .i64 17, .int .i64 128, .int .i64 131, .int .i64 135, .int .i64 143, .int .i64 145] 3)).trans (hb.mono (by simp only [World.size_alloc]; omega)))
  have H1 := (hb.block _ (by simp only [World.size_alloc]; omega)).trans ((heap_alloc_old _ (.cells #[.int .i64 0, .int .i64 17, .int .i64 128, .int .i64 131, .int .i64 135, .int .i64 143, .int .i64 145] 3) (by simp)).trans H0.out)
  clear hb
  have LW := Lib.hid (below_setRow L1.out (Nat.le_refl w.heap.size) (C4 (ofL [0, 17, 128, 131, 135, 143, 145])))
  unfold V4
  generalize hX : (ofL [0, 17, 128, 131, 135, 143, 145]) = X
  rw [hX] at LW
  go_wp2_with (refine wpList_store_row rfl _ _ _ rfl w.heap.size _ rfl rfl 107 _ H1 info_set rfl (by simp [Value.oneCell']) ?_)
  exact ret_set rfl rfl rfl rfl (setRow_heap _ _ _ _ _ _ H1) ⟨by rw [← hX]; rfl, LW.out⟩
set_option maxRecDepth 100000 in
theorem codes_14 (w : World) :
    Calls Try.prog 61 #[.int .i64 14] w fun e w' => e = .returned (V4 (wordsG 6)) ∧ Below w.heap.size w w' := by
  have H0 := Lib.hid (heap_alloc_new w (.cells #[.int .u64 0, .int .u64 0, .int .u64 0, .int .u64 0] 107))
  have L0 := Lib.hid (show Below w.heap.size w (w.alloc (.cells #[.int .u64 0, .int .u64 0, .int .u64 0, .int .u64 0] 107)) from (Below.refl _ _).alloc (Nat.le_refl _) _)
  go_enter Try.func61, Try.ntmps61
  go_wp2_with fail
  refine (of_any (w.heap.size + 1) [0, 4, 135, 137, 139, 141, 142, 143, 144] 9 9 _ rfl (by decide) (by decide) (by have := cells_lit (w.alloc (.cells #[.int .u64 0, .int .u64 0, .int .u64 0, .int .u64 0] 107)) [0, 4, 135, 137, 139, 141, 142, 143, 144] 3 #[.int .i64 0, .int .i64 4, .int .i64 135, .int .i64 137, .int .i64 139, .int .i64 141, .int .i64 142, .int .i64 143, .int .i64 144] rfl; rw [World.size_alloc] at this; exact this) (by simp)).mono ?_
  rintro e w1 ⟨rfl, hb⟩
  have L1 := Lib.hid ((L0.out.alloc (by simp) (.cells #[.int .i64 0, .int .i64 4, .int .i64 135, .int .i64 137, .int .i64 139, .int .i64 141, .int .i64 142, .int .i64 143, .int .i64 144] 3)).trans (hb.mono (by simp only [World.size_alloc]; omega)))
  have H1 := (hb.block _ (by simp only [World.size_alloc]; omega)).trans ((heap_alloc_old _ (.cells #[.int .i64 0, .int .i64 4, .int .i64 135, .int .i64 137, .int .i64 139, .int .i64 141, .int .i64 142, .int .i64 143, .int .i64 144] 3) (by simp)).trans H0.out)
  clear hb
  unfold V4 at *
  go_wp2_with fail
  refine (and_any (ofL [0, 4, 135, 137, 139, 141, 142, 143, 144]) 128 4 131 (OkW.ofL _) (by decide) (by decide) _).mono ?_
  rintro e w2 ⟨rfl, hb⟩
  have L2 := Lib.hid (L1.out.trans (hb.mono L1.out.size))
  have H2 := (hb.block _ (lt_of_block H1)).trans H1
  clear hb H1
  unfold V4 at *
  go_wp2_with fail
  refine (and_any (addR (ofL [0, 4, 135, 137, 139, 141, 142, 143, 144]) 128 4) 147 16 162 ((OkW.ofL _).addR _ _) (by decide) (by decide) _).mono ?_
  rintro e w3 ⟨rfl, hb⟩
  have L3 := Lib.hid (L2.out.trans (hb.mono L2.out.size))
  have H3 := (hb.block _ (lt_of_block H2)).trans H2
  clear hb H2
  have LW := Lib.hid (below_setRow L3.out (Nat.le_refl w.heap.size) (C4 (addR (addR (ofL [0, 4, 135, 137, 139, 141, 142, 143, 144]) 128 4) 147 16)))
  unfold V4
  generalize hX : (addR (addR (ofL [0, 4, 135, 137, 139, 141, 142, 143, 144]) 128 4) 147 16) = X
  rw [hX] at LW
  go_wp2_with (refine wpList_store_row rfl _ _ _ rfl w.heap.size _ rfl rfl 107 _ H3 info_set rfl (by simp [Value.oneCell']) ?_)
  exact ret_set rfl rfl rfl rfl (setRow_heap _ _ _ _ _ _ H3) ⟨by rw [← hX]; rfl, LW.out⟩
set_option maxRecDepth 100000 in
theorem codes_15 (w : World) :
    Calls Try.prog 61 #[.int .i64 15] w fun e w' => e = .returned (V4 (wordsG 7)) ∧ Below w.heap.size w w' := by
  have H0 := Lib.hid (heap_alloc_new w (.cells #[.int .u64 0, .int .u64 0, .int .u64 0, .int .u64 0] 107))
  have L0 := Lib.hid (show Below w.heap.size w (w.alloc (.cells #[.int .u64 0, .int .u64 0, .int .u64 0, .int .u64 0] 107)) from (Below.refl _ _).alloc (Nat.le_refl _) _)
  go_enter Try.func61, Try.ntmps61
  go_wp2_with fail
  refine (of_any (w.heap.size + 1) [0, 24, 25] 3 3 _ rfl (by decide) (by decide) (by have := cells_lit (w.alloc (.cells #[.int .u64 0, .int .u64 0, .int .u64 0, .int .u64 0] 107)) [0, 24, 25] 3 #[.int .i64 0, .int .i64 24, .int .i64 25] rfl; rw [World.size_alloc] at this; exact this) (by simp)).mono ?_
  rintro e w1 ⟨rfl, hb⟩
  have L1 := Lib.hid ((L0.out.alloc (by simp) (.cells #[.int .i64 0, .int .i64 24, .int .i64 25] 3)).trans (hb.mono (by simp only [World.size_alloc]; omega)))
  have H1 := (hb.block _ (by simp only [World.size_alloc]; omega)).trans ((heap_alloc_old _ (.cells #[.int .i64 0, .int .i64 24, .int .i64 25] 3) (by simp)).trans H0.out)
  clear hb
  have LW := Lib.hid (below_setRow L1.out (Nat.le_refl w.heap.size) (C4 (ofL [0, 24, 25])))
  unfold V4
  generalize hX : (ofL [0, 24, 25]) = X
  rw [hX] at LW
  go_wp2_with (refine wpList_store_row rfl _ _ _ rfl w.heap.size _ rfl rfl 107 _ H1 info_set rfl (by simp [Value.oneCell']) ?_)
  exact ret_set rfl rfl rfl rfl (setRow_heap _ _ _ _ _ _ H1) ⟨by rw [← hX]; rfl, LW.out⟩
set_option maxRecDepth 100000 in
theorem codes_none (kind : Int) (w : World) (h : grp kind = 0) :
    Calls Try.prog 61 #[.int .i64 kind] w fun e w' => e = .returned (V4 (wordsG 0)) ∧ Below w.heap.size w w' := by
  have H0 := heap_alloc_new w (.cells #[.int .u64 0, .int .u64 0, .int .u64 0, .int .u64 0] 107)
  have LW := Lib.hid (below_setRow (show Below w.heap.size w (w.alloc (.cells #[.int .u64 0, .int .u64 0, .int .u64 0, .int .u64 0] 107)) from (Below.refl _ _).alloc (Nat.le_refl _) _) (Nat.le_refl w.heap.size) #[.int .u64 0, .int .u64 0, .int .u64 0, .int .u64 0])
  unfold grp at h
  have a1 : ¬ kind = 2 := fun e => by subst e; simp at h
  have a4 : ¬ kind = 4 := fun e => by subst e; simp at h
  have a5 : ¬ kind = 5 := fun e => by subst e; simp at h
  have a6 : ¬ kind = 6 := fun e => by subst e; simp at h
  have a7 : ¬ kind = 7 := fun e => by subst e; simp at h
  have a9 : ¬ kind = 9 := fun e => by subst e; simp at h
  have a11 : ¬ kind = 11 := fun e => by subst e; simp at h
  have a14 : ¬ kind = 14 := fun e => by subst e; simp at h
  have a15 : ¬ kind = 15 := fun e => by subst e; simp at h
  clear h
  go_enter Try.func61, Try.ntmps61
  go_wp2_with (refine wpList_store_row rfl _ _ _ rfl w.heap.size _ rfl rfl 107 _ H0 info_set rfl (by simp [Value.oneCell']) ?_)
  exact ret_set rfl rfl rfl rfl (setRow_heap _ _ _ _ _ _ H0) ⟨rfl, LW.out⟩
theorem codes_any (kind : Int) (w : World) :
    Calls Try.prog 61 #[.int .i64 kind] w fun e w' => e = .returned (V4 (wordsG (grp kind))) ∧ Below w.heap.size w w' := by
  by_cases k2 : kind = 2
  · subst k2; exact codes_2 w
  by_cases k4 : kind = 4
  · subst k4; exact codes_4 w
  by_cases k5 : kind = 5
  · subst k5; exact codes_5 w
  by_cases k6 : kind = 6
  · subst k6; exact codes_6 w
  by_cases k7 : kind = 7
  · subst k7; exact codes_7 w
  by_cases k9 : kind = 9
  · subst k9; exact codes_9 w
  by_cases k11 : kind = 11
  · subst k11; exact codes_11 w
  by_cases k14 : kind = 14
  · subst k14; exact codes_14 w
  by_cases k15 : kind = 15
  · subst k15; exact codes_15 w
  have hg : grp kind = 0 := by
    unfold grp
    simp [k2, k4, k5, k6, k7, k9, k11, k14, k15]
  rw [hg]
  exact codes_none kind w hg
end Go.Proofs.Ytbgpcmbaodjibaa
