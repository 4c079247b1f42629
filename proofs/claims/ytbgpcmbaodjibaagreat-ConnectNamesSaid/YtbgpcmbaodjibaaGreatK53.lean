/-
  The walk of ConnectNames. No condition.
-/
import Derived.Deep.DeepCutAuto
import Derived.Test.YtbgpcmbaodjibaaGreatK52
import Derived.Test.YtbgpcmbaodjibaaGreatK42
namespace Go.Proofs.YtbgpcmbaodjibaaGreat
open Go.RowKit

theorem nm_sub {s : ByteArray} (h : s.size = 13) : IntKind.i64.wrap ((s.size : Int) - 1) = 12 := by rw [h]; decide
set_option maxHeartbeats 8000000 in
set_option maxRecDepth 100000 in
theorem conname_walk (w : World) :
    Calls Tryz.prog 3 #[] w fun e w' => e = .returned (.bool true) ∧ Below w.heap.size w w' := by
  have HZ := Lib.hid pkZ_size
  have hzv := zero_pk
  have hne : ¬ pkZ = #[] := by intro h; have := pkZ_size; rw [h] at this; cases this
  have ZO : pkZ.all (·.oneCell') = true := pkC_one Pk.zero adZ
  have PL := Lib.hid nm_plain
  have B4 := nm_body (p := plainP) (by decide +kernel) 4 (l := [0, 4, 77, 81, 84, 84, 4, 2, 0, 10, 0, 1, 99]) (by decide +kernel)
  have B5 := nm_body (p := plainP) (by decide +kernel) 5 (l := [0, 4, 77, 81, 84, 84, 5, 2, 0, 10, 0, 0, 1, 99]) (by decide +kernel)
  have BF := nm_body (p := fullP) (by decide +kernel) 4 (l := [0, 4, 77, 81, 84, 84, 4, 238, 0, 10, 0, 1, 99, 0, 1, 119, 0, 1, 112, 0, 1, 117, 0, 1, 115]) (by decide +kernel)
  obtain ⟨A, hA⟩ : ∃ A, bs [0, 4, 77, 81, 84, 84, 4, 2, 0, 10, 0, 1, 99] = A := ⟨_, rfl⟩
  have dA : A.data.toList = [0, 4, 77, 81, 84, 84, 4, 2, 0, 10, 0, 1, 99] := by rw [← hA]; rfl
  have sA : A.size = 13 := by rw [← hA]; rfl
  have qA : (A.toList == [0, 4, 77, 81, 84, 84, 4, 2, 0, 10, 0, 1, 99]) = true := by rw [← hA, bs_toList]; rfl
  obtain ⟨A5, hA5⟩ : ∃ A, bs [0, 4, 77, 81, 84, 84, 5, 2, 0, 10, 0, 0, 1, 99] = A := ⟨_, rfl⟩
  have qA5 : (A5.toList == [0, 4, 77, 81, 84, 84, 5, 2, 0, 10, 0, 0, 1, 99]) = true := by rw [← hA5, bs_toList]; rfl
  obtain ⟨C, hC⟩ : ∃ A, bs [0, 4, 77, 81, 84, 84, 4, 238, 0, 10, 0, 1, 99, 0, 1, 119, 0, 1, 112, 0, 1, 117, 0, 1, 115] = A := ⟨_, rfl⟩
  have qC : (C.toList == [0, 4, 77, 81, 84, 84, 4, 238, 0, 10, 0, 1, 99, 0, 1, 119, 0, 1, 112, 0, 1, 117, 0, 1, 115]) = true := by rw [← hC, bs_toList]; rfl
  rw [hA] at B4
  rw [hA5] at B5
  rw [hC] at BF
  have R5 := Lib.hid (nm_read0 A dA)
  have R6 := Lib.hid (nm_read 5 1 A (n := 5) (by rw [sA]; decide) (by rw [dA]; decide +kernel) (by decide) (E := 5) rfl)
  have R7 := Lib.hid (nm_read 4 1 (A ++ ⟨#[122]⟩) (n := 5) (by rw [ByteArray.size_append, sA]; decide) (by rw [ByteArray.data_append, Array.toList_append, dA]; decide +kernel) (by decide) (E := 5) rfl)
  have R8 := Lib.hid (nm_read 4 1 (A.extract 0 12) (n := 3) (by rw [ByteArray.size_extract, sA]; decide) (by rw [ByteArray.data_extract, Array.toList_extract, dA]; decide +kernel) (by decide) (E := 3) rfl)
  have R9 := Lib.hid (nm_read 4 1 ⟨#[0, 4, 77, 81, 84, 84, 4, 3, 0, 10, 0, 1, 99]⟩ (n := 7) (by decide) (by decide +kernel) (by decide) (E := 7) rfl)
  have R10 := Lib.hid (nm_read 4 1 ⟨#[0, 4, 77, 81, 84, 84, 4, 66, 0, 10, 0, 1, 99, 0, 0]⟩ (n := 7) (by decide) (by decide +kernel) (by decide) (E := 7) rfl)
  have R11 := Lib.hid (nm_read 4 1 ⟨#[0, 4, 77, 81, 84, 84, 4, 0, 0, 10, 0, 0]⟩ (n := 2) (by decide) (by decide +kernel) (by decide) (E := 2) rfl)
  have R12 := Lib.hid (nm_read 4 1 ⟨#[0, 4, 77, 81, 84, 88, 4]⟩ (n := 5) (by decide) (by decide +kernel) (by decide) (E := 5) rfl)
  have R23 := Lib.hid (nm_read 4 2 ⟨#[2, 0]⟩ (n := 7) (by decide) (by decide +kernel) (by decide) (E := 7) rfl)
  have R24 := Lib.hid (nm_read 4 2 ⟨#[1, 1]⟩ (n := 2) (by decide) (by decide +kernel) (by decide) (E := 2) rfl)
  have R25 := Lib.hid (nm_read 4 3 ⟨#[]⟩ (n := 2) (by decide) (by decide +kernel) (by decide) (E := 2) rfl)
  have B4 := Lib.hid B4
  have B5 := Lib.hid B5
  have BF := Lib.hid BF
  have FF := Lib.hid (nm_flags fullP (k := 238) (by decide +kernel))
  have FZ := Lib.hid (show ∀ W, Calls Tryz.prog 12 #[.agg pkZ] W fun e w' => e = .returned (.int .i64 0) ∧ Below W.heap.size W w' from nm_flags Pk.zero (k := 0) (by decide +kernel))
  have VO := Lib.hid (nm_valid (p := oddP) (by decide +kernel) 4 (k := 10) (by decide +kernel))
  have VL := Lib.hid (nm_valid (p := lostP) (by decide +kernel) 5 (k := 2) (by decide +kernel))
  have VP4 := Lib.hid (nm_valid (p := oldP) (by decide +kernel) 4 (k := 2) (by decide +kernel))
  have VP5 := Lib.hid (nm_valid (p := oldP) (by decide +kernel) 5 (k := 0) (by decide +kernel))
  have s12 : IntKind.i64.wrap ((A.size : Int) - 1) = 12 := nm_sub sA
  have hs1 : (A.size : Int) = 13 := by rw [sA]; rfl
  have QA := Lib.hid qA
  have QA5 := Lib.hid qA5
  have QC := Lib.hid qC
  have IA := Lib.hid (show A = ⟨#[0, 4, 77, 81, 84, 84, 4, 2, 0, 10, 0, 1, 99]⟩ by rw [← hA]; rfl)
  have IA5 := Lib.hid (show A5 = ⟨#[0, 4, 77, 81, 84, 84, 5, 2, 0, 10, 0, 0, 1, 99]⟩ by rw [← hA5]; rfl)
  have IC := Lib.hid (show C = ⟨#[0, 4, 77, 81, 84, 84, 4, 238, 0, 10, 0, 1, 99, 0, 1, 119, 0, 1, 112, 0, 1, 117, 0, 1, 115]⟩ by rw [← hC]; rfl)
  clear hA dA qA hA5 qA5 hC qC QA QA5 QC
  go_enter Tryz.func3, Tryz.ntmps3
  go_wp2_with fail
  refine (lives_con _).mono ?_
  rintro e W0 ⟨rfl, hb⟩
  have S0 : Hid (NmS w [] W0) := Lib.hid ⟨hb, (fun x hx => nomatch hx), .nil⟩
  clear hb
  go_wp2_with fail
  refine (PL.out _).mono ?_
  rintro e Wa ⟨rfl, hb⟩
  have Sa := Lib.hid (S0.out.call hb)
  clear hb
  go_wp2_with fail
  refine (B4.out _).mono ?_
  rintro e Wb ⟨rfl, hb⟩
  have Sb := Lib.hid (Sa.out.call hb)
  clear hb
  go_wp2_with fail
  refine (PL.out _).mono ?_
  rintro e Wc ⟨rfl, hb⟩
  have Sc := Lib.hid (Sb.out.call hb)
  clear hb
  go_wp2_with fail
  refine (B5.out _).mono ?_
  rintro e Wd ⟨rfl, hb⟩
  have Sd := Lib.hid (Sc.out.call hb)
  clear hb
  go_wp2_with fail
  refine (R5.out _).mono ?_
  rintro e W5 ⟨a5, rfl, at5, hb⟩
  have P1 := Lib.hid (pkC_size plainP a5)
  have P2 := Lib.hid (pkC_one plainP a5)
  have LV := Lib.hid (below_then (Sd.out.call hb).low (nm_box W5 (pkC plainP a5)))
  have T5 := Lib.hid (at5.below (nm_box W5 (pkC plainP a5)))
  have G5 := Lib.hid (setRow_heap _ _ _ (pkC plainP a5) _ _ (heap_alloc_new W5 (.cells pkZ 32)))
  clear hb at5 Sd Sc Sb Sa S0
  have SM := fun W (h : PkAt W plainP a5) => ksame_pk plainP a5 adZ W h ((bare_parts (p := plainP) (by decide +kernel)).1 W) (by decide) (by decide) (by decide) (by decide)
  unfold pkV at SM
  generalize hD5 : pkC plainP a5 = D5 at *
  have SM := Lib.hid SM
  clear hD5
  go_upto_region 6 with (refine wpList_store_row rfl _ _ _ rfl W5.heap.size D5 rfl rfl 32 _ (heap_alloc_new W5 _) (by rw [P1.out]; exact info_pk) (by first | rfl | (rw [HZ.out, P1.out])) P2.out ?_)
  obtain ⟨V5, hV5⟩ : ∃ V, (W5.alloc (.cells pkZ 32)).setRow W5.heap.size D5 = V := ⟨_, rfl⟩
  rw [hV5] at LV T5 G5 ⊢
  have LV := Lib.hid LV.out
  have T5 := Lib.hid T5.out
  have G5 := Lib.hid G5.out
  have S5 : Hid (NmS V5 [] V5) := Lib.hid ⟨Below.refl _ _, (fun x hx => nomatch hx), .nil⟩
  clear hV5
  go_wp2_with fail
  refine (R6.out _).mono ?_
  rintro e W6 ⟨rfl, hb⟩
  have S6 := Lib.hid (S5.out.call hb).junk
  clear hb S5
  go_wp2_with (refine wpList_store_row rfl _ _ _ rfl W6.heap.size pkZ rfl rfl 32 _ (heap_alloc_new W6 _) (by rw [HZ.out]; exact info_pk) (by first | rfl | (rw [HZ.out, P1.out])) ZO ?_)
  refine (R7.out _).mono ?_
  rintro e W7 ⟨rfl, hb⟩
  have S7 := Lib.hid (S6.out.call hb).junk
  clear hb S6
  go_wp2_with (refine wpList_store_row rfl _ _ _ rfl W7.heap.size pkZ rfl rfl 32 _ (heap_alloc_new W7 _) (by rw [HZ.out]; exact info_pk) (by first | rfl | (rw [HZ.out, P1.out])) ZO ?_)
  refine (R8.out _).mono ?_
  rintro e W8 ⟨rfl, hb⟩
  have S8 := Lib.hid (S7.out.call hb).junk
  clear hb S7
  go_wp2_with (refine wpList_store_row rfl _ _ _ rfl W8.heap.size pkZ rfl rfl 32 _ (heap_alloc_new W8 _) (by rw [HZ.out]; exact info_pk) (by first | rfl | (rw [HZ.out, P1.out])) ZO ?_)
  refine (R9.out _).mono ?_
  rintro e W9 ⟨rfl, hb⟩
  have S9 := Lib.hid (S8.out.call hb).junk
  clear hb S8
  go_wp2_with (refine wpList_store_row rfl _ _ _ rfl W9.heap.size pkZ rfl rfl 32 _ (heap_alloc_new W9 _) (by rw [HZ.out]; exact info_pk) (by first | rfl | (rw [HZ.out, P1.out])) ZO ?_)
  refine (R10.out _).mono ?_
  rintro e W10 ⟨rfl, hb⟩
  have S10 := Lib.hid (S9.out.call hb).junk
  clear hb S9
  go_wp2_with (refine wpList_store_row rfl _ _ _ rfl W10.heap.size pkZ rfl rfl 32 _ (heap_alloc_new W10 _) (by rw [HZ.out]; exact info_pk) (by first | rfl | (rw [HZ.out, P1.out])) ZO ?_)
  refine (R11.out _).mono ?_
  rintro e W11 ⟨rfl, hb⟩
  have S11 := Lib.hid (S10.out.call hb).junk
  clear hb S10
  go_wp2_with (refine wpList_store_row rfl _ _ _ rfl W11.heap.size pkZ rfl rfl 32 _ (heap_alloc_new W11 _) (by rw [HZ.out]; exact info_pk) (by first | rfl | (rw [HZ.out, P1.out])) ZO ?_)
  refine (R12.out _).mono ?_
  rintro e W12 ⟨rfl, hb⟩
  have S12 := Lib.hid (S11.out.call hb).junk
  clear hb S11
  go_wp2_with (refine wpList_store_row rfl _ _ _ rfl W12.heap.size pkZ rfl rfl 32 _ (heap_alloc_new W12 _) (by rw [HZ.out]; exact info_pk) (by first | rfl | (rw [HZ.out, P1.out])) ZO ?_)
  refine (PL.out _).mono ?_
  rintro e W13 ⟨rfl, hb⟩
  have S13 := Lib.hid ((S12.out.call hb).put (pkC plainP adZ))
  clear hb
  go_upto_region 14 with (refine wpList_store_row rfl _ _ _ rfl W13.heap.size (pkC plainP adZ) rfl rfl 32 _ (heap_alloc_new W13 _) (by rw [pkC_size]; exact info_pk) (by rw [HZ.out, pkC_size]) (pkC_one _ _) ?_)
  obtain ⟨U0, hU0⟩ : ∃ U, ((W13.alloc (.cells pkZ 32)).setRow W13.heap.size (pkC plainP adZ)) = U := ⟨_, rfl⟩
  rw [hU0] at S13 ⊢
  have T13 := Lib.hid S13.out
  clear hU0
  have cU010 : U0.cell? ⟨W13.heap.size, 10, none⟩ = some (.bool false) := T13.out.cell 10
  have fU010 := T13.out.open 10
  have cU011 : U0.cell? ⟨W13.heap.size, 11, none⟩ = some (.string ⟨#[]⟩) := T13.out.cell 11
  have fU011 := T13.out.open 11
  have cU012 : U0.cell? ⟨W13.heap.size, 12, none⟩ = some (.bool false) := T13.out.cell 12
  have fU012 := T13.out.open 12
  have cU013 : U0.cell? ⟨W13.heap.size, 13, none⟩ = some (.string ⟨#[]⟩) := T13.out.cell 13
  have fU013 := T13.out.open 13
  have cU014 : U0.cell? ⟨W13.heap.size, 14, none⟩ = some (.bool false) := T13.out.cell 14
  have fU014 := T13.out.open 14
  have cU015 : U0.cell? ⟨W13.heap.size, 15, none⟩ = some (.string ⟨#[]⟩) := T13.out.cell 15
  have fU015 := T13.out.open 15
  have cU016 : U0.cell? ⟨W13.heap.size, 16, none⟩ = some (.string ⟨#[]⟩) := T13.out.cell 16
  have fU016 := T13.out.open 16
  have cU017 : U0.cell? ⟨W13.heap.size, 17, none⟩ = some (.int .i64 0) := T13.out.cell 17
  have fU017 := T13.out.open 17
  have cU018 : U0.cell? ⟨W13.heap.size, 18, none⟩ = some (.bool false) := T13.out.cell 18
  have fU018 := T13.out.open 18
  have cU019 : U0.cell? ⟨W13.heap.size, 19, none⟩ = some (.slice none 0 0) := T13.out.cell 19
  have fU019 := T13.out.open 19
  have T15 := ((((((((((T13.out.set 14 (.bool true)).set 15 (.string ⟨#[119]⟩)).set 16 (.string ⟨#[112]⟩)).set 17 (.int .i64 1)).set 18 (.bool true)).set 19 (.slice none 0 0)).set 10 (.bool true)).set 11 (.string ⟨#[117]⟩)).set 12 (.bool true)).set 13 (.string ⟨#[115]⟩))
  rw [show ((((((((((pkC plainP adZ).setIfInBounds 14 (.bool true)).setIfInBounds 15 (.string ⟨#[119]⟩)).setIfInBounds 16 (.string ⟨#[112]⟩)).setIfInBounds 17 (.int .i64 1)).setIfInBounds 18 (.bool true)).setIfInBounds 19 (.slice none 0 0)).setIfInBounds 10 (.bool true)).setIfInBounds 11 (.string ⟨#[117]⟩)).setIfInBounds 12 (.bool true)).setIfInBounds 13 (.string ⟨#[115]⟩) = pkC fullP adZ by kernel_rfl] at T15
  have T15 := Lib.hid T15
  go_upto_region 16 with fail
  obtain ⟨U1, hU1⟩ : ∃ U, ((((((((((U0.setCell ⟨W13.heap.size, 14, none⟩ (.bool true)).setCell ⟨W13.heap.size, 15, none⟩ (.string ⟨#[119]⟩)).setCell ⟨W13.heap.size, 16, none⟩ (.string ⟨#[112]⟩)).setCell ⟨W13.heap.size, 17, none⟩ (.int .i64 1)).setCell ⟨W13.heap.size, 18, none⟩ (.bool true)).setCell ⟨W13.heap.size, 19, none⟩ (.slice none 0 0)).setCell ⟨W13.heap.size, 10, none⟩ (.bool true)).setCell ⟨W13.heap.size, 11, none⟩ (.string ⟨#[117]⟩)).setCell ⟨W13.heap.size, 12, none⟩ (.bool true)).setCell ⟨W13.heap.size, 13, none⟩ (.string ⟨#[115]⟩)) = U := ⟨_, rfl⟩
  rw [hU1] at T15 ⊢
  have T15 := Lib.hid T15.out
  clear hU1 T13 cU010 fU010 cU011 fU011 cU012 fU012 cU013 fU013 cU014 fU014 cU015 fU015 cU016 fU016 cU017 fU017 cU018 fU018 cU019 fU019
  have G15 := Lib.hid T15.out.hd
  go_wp2_with (refine wpList_load_row rfl _ _ rfl W13.heap.size rfl 32 (pkC fullP adZ) (0, 0) _ G15.out Tryz.underlying32 rfl (by first | (rw [pkC_size]; exact info_pk) | (rw [P1.out]; exact info_pk)) ?_)
  refine (BF.out _).mono ?_
  rintro e W16 ⟨rfl, hb⟩
  have S16 := Lib.hid (T15.out.call hb)
  have G16 := Lib.hid S16.out.hd
  have S17 := Lib.hid (S16.out.put (pkC fullP adZ))
  clear hb T15 G15
  go_upto_region 18 with (first | (refine wpList_store_row rfl _ _ _ rfl W16.heap.size (pkC fullP adZ) rfl rfl 32 _ (heap_alloc_new W16 _) (by rw [pkC_size]; exact info_pk) (by rw [HZ.out, pkC_size]) (pkC_one _ _) ?_) | (refine wpList_load_row rfl _ _ rfl W13.heap.size rfl 32 (pkC fullP adZ) (0, 0) _ G16.out Tryz.underlying32 rfl (by first | (rw [pkC_size]; exact info_pk) | (rw [P1.out]; exact info_pk)) ?_))
  obtain ⟨U2, hU2⟩ : ∃ U, ((W16.alloc (.cells pkZ 32)).setRow W16.heap.size (pkC fullP adZ)) = U := ⟨_, rfl⟩
  rw [hU2] at S17 ⊢
  have T17 := Lib.hid S17.out
  clear hU2
  have cU215 : U2.cell? ⟨W16.heap.size, 15, none⟩ = some (.string ⟨#[119]⟩) := T17.out.cell 15
  have fU215 := T17.out.open 15
  have T18 := (T17.out.set 15 (.string ⟨#[35]⟩))
  rw [show (pkC fullP adZ).setIfInBounds 15 (.string ⟨#[35]⟩) = pkC oddP adZ by kernel_rfl] at T18
  have T18 := Lib.hid T18
  go_upto_region 19 with fail
  obtain ⟨U3, hU3⟩ : ∃ U, (U2.setCell ⟨W16.heap.size, 15, none⟩ (.string ⟨#[35]⟩)) = U := ⟨_, rfl⟩
  rw [hU3] at T18 ⊢
  have T18 := Lib.hid T18.out
  clear hU3 T17 cU215 fU215
  go_wp2_with fail
  refine (PL.out _).mono ?_
  rintro e W19 ⟨rfl, hb⟩
  have S19 := Lib.hid ((T18.out.call hb).put (pkC plainP adZ))
  clear hb
  go_upto_region 20 with (refine wpList_store_row rfl _ _ _ rfl W19.heap.size (pkC plainP adZ) rfl rfl 32 _ (heap_alloc_new W19 _) (by rw [pkC_size]; exact info_pk) (by rw [HZ.out, pkC_size]) (pkC_one _ _) ?_)
  obtain ⟨U4, hU4⟩ : ∃ U, ((W19.alloc (.cells pkZ 32)).setRow W19.heap.size (pkC plainP adZ)) = U := ⟨_, rfl⟩
  rw [hU4] at S19 ⊢
  have T19 := Lib.hid S19.out
  clear hU4
  have cU411 : U4.cell? ⟨W19.heap.size, 11, none⟩ = some (.string ⟨#[]⟩) := T19.out.cell 11
  have fU411 := T19.out.open 11
  have T20 := (T19.out.set 11 (.string ⟨#[117]⟩))
  rw [show (pkC plainP adZ).setIfInBounds 11 (.string ⟨#[117]⟩) = pkC lostP adZ by kernel_rfl] at T20
  have T20 := Lib.hid T20
  go_upto_region 21 with fail
  obtain ⟨U5, hU5⟩ : ∃ U, (U4.setCell ⟨W19.heap.size, 11, none⟩ (.string ⟨#[117]⟩)) = U := ⟨_, rfl⟩
  rw [hU5] at T20 ⊢
  have T20 := Lib.hid T20.out
  clear hU5 T19 cU411 fU411
  go_wp2_with fail
  refine (PL.out _).mono ?_
  rintro e W21 ⟨rfl, hb⟩
  have S21 := Lib.hid ((T20.out.call hb).put (pkC plainP adZ))
  clear hb
  go_upto_region 22 with (refine wpList_store_row rfl _ _ _ rfl W21.heap.size (pkC plainP adZ) rfl rfl 32 _ (heap_alloc_new W21 _) (by rw [pkC_size]; exact info_pk) (by rw [HZ.out, pkC_size]) (pkC_one _ _) ?_)
  obtain ⟨U6, hU6⟩ : ∃ U, ((W21.alloc (.cells pkZ 32)).setRow W21.heap.size (pkC plainP adZ)) = U := ⟨_, rfl⟩
  rw [hU6] at S21 ⊢
  have T21 := Lib.hid S21.out
  clear hU6
  have cU612 : U6.cell? ⟨W21.heap.size, 12, none⟩ = some (.bool false) := T21.out.cell 12
  have fU612 := T21.out.open 12
  have T22 := (T21.out.set 12 (.bool true))
  rw [show (pkC plainP adZ).setIfInBounds 12 (.bool true) = pkC oldP adZ by kernel_rfl] at T22
  have T22 := Lib.hid T22
  go_upto_region 23 with fail
  obtain ⟨U7, hU7⟩ : ∃ U, (U6.setCell ⟨W21.heap.size, 12, none⟩ (.bool true)) = U := ⟨_, rfl⟩
  rw [hU7] at T22 ⊢
  have T22 := Lib.hid T22.out
  clear hU7 T21 cU612 fU612
  go_wp2_with fail
  refine (R23.out _).mono ?_
  rintro e W23 ⟨rfl, hb⟩
  have S23 := Lib.hid (T22.out.call hb).junk
  clear hb T22
  go_wp2_with (refine wpList_store_row rfl _ _ _ rfl W23.heap.size pkZ rfl rfl 32 _ (heap_alloc_new W23 _) (by rw [HZ.out]; exact info_pk) (by first | rfl | (rw [HZ.out, P1.out])) ZO ?_)
  refine (R24.out _).mono ?_
  rintro e W24 ⟨rfl, hb⟩
  have S24 := Lib.hid (S23.out.call hb).junk
  clear hb S23
  go_wp2_with (refine wpList_store_row rfl _ _ _ rfl W24.heap.size pkZ rfl rfl 32 _ (heap_alloc_new W24 _) (by rw [HZ.out]; exact info_pk) (by first | rfl | (rw [HZ.out, P1.out])) ZO ?_)
  refine (R25.out _).mono ?_
  rintro e W25 ⟨rfl, hb⟩
  have S25 := Lib.hid (S24.out.call hb).junk
  clear hb S24
  go_upto_region 26 with (refine wpList_store_row rfl _ _ _ rfl W25.heap.size pkZ rfl rfl 32 _ (heap_alloc_new W25 _) (by rw [HZ.out]; exact info_pk) (by first | rfl | (rw [HZ.out, P1.out])) ZO ?_)
  refine conname_last (T := NmS V5 [(W21.heap.size, pkC oldP adZ), (W19.heap.size, pkC lostP adZ), (W16.heap.size, pkC oddP adZ), (W13.heap.size, pkC fullP adZ)]) (E := pkC plainP adZ) (D5 := D5) S25.out.drew IA.out IA5.out IC.out P1.out (pkC_size _ _) (pkC_size _ _) (pkC_size _ _) (pkC_size _ _)
    (fun W h => (h.low.block _ (lt_of_block G5.out)).trans G5.out) (fun W h => (h.row (W13.heap.size, pkC fullP adZ) (by simp)).2) (fun W h => (h.row (W16.heap.size, pkC oddP adZ) (by simp)).2) (fun W h => (h.row (W19.heap.size, pkC lostP adZ) (by simp)).2) (fun W h => (h.row (W21.heap.size, pkC oldP adZ) (by simp)).2)
    (fun W h => (PL.out W).mono fun e w' ⟨he, hb⟩ => ⟨he, h.call hb⟩) (fun W h => (SM.out W (T5.out.below h.low)).mono fun e w' ⟨he, hb⟩ => ⟨he, h.call hb⟩)
    (fun W h => (FF.out W).mono fun e w' ⟨he, hb⟩ => ⟨he, h.call hb⟩) (fun W h => (FZ.out W).mono fun e w' ⟨he, hb⟩ => ⟨he, h.call hb⟩) (fun W h => (VO.out W).mono fun e w' ⟨he, hb⟩ => ⟨he, h.call hb⟩) (fun W h => (VL.out W).mono fun e w' ⟨he, hb⟩ => ⟨he, h.call hb⟩) (fun W h => (VP4.out W).mono fun e w' ⟨he, hb⟩ => ⟨he, h.call hb⟩) (fun W h => (VP5.out W).mono fun e w' ⟨he, hb⟩ => ⟨he, h.call hb⟩) ?_
  intro W h
  have LE := Lib.hid (below_then LV.out h.low)
  clear h
  go_wp2_with fail
  go_ret
  exact ⟨rfl, LE.out⟩
end Go.Proofs.YtbgpcmbaodjibaaGreat
