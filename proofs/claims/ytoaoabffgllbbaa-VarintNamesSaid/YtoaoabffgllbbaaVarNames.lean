/-
  VarintNames answers true: the examples of the chapter have the results that it states; what is not valid; an invalid reader. No condition.
-/
import Derived.Test.YtoaoabffgllbbaaVarSt
import Derived.Test.YtoaoabffgllbbaaVarBackWalk
import Derived.Test.YtoaoabffgllbbaaLawKit
namespace Go.Proofs.Ytoaoabffgllbbaa
open Go.ChangeShapes Go.WideShapes Go.ChangeAt Go.RowKit

section
variable {w W : World} {R v n st : Nat}
theorem nm_push80 (h : VSt w W R 0 0 0) : Calls Try.prog 12 #[.pointer (some ⟨R, 0, none⟩), .int .u8 128] W fun e W' => e = .returned (.tuple #[.bool false, .int .i64 0]) ∧ VSt w W' R 0 1 0 :=
  vst_mut h (rd_push_more 128 h.2.2 (by decide) (by decide) (by decide))
theorem nm_push0 (h : VSt w W R 0 1 0) : Calls Try.prog 12 #[.pointer (some ⟨R, 0, none⟩), .int .u8 0] W fun e W' => e = .returned (.tuple #[.bool false, .int .i64 5]) ∧ VSt w W' R 0 2 2 :=
  vst_mut h (rd_push_bad 0 h.2.2 (by decide) (by decide) (by decide))
theorem nm_push1 (h : VSt w W R 0 2 2) : Calls Try.prog 12 #[.pointer (some ⟨R, 0, none⟩), .int .u8 1] W fun e W' => e = .returned (.tuple #[.bool false, .int .i64 13]) ∧ VSt w W' R 0 2 2 :=
  vst_same h (rd_push_shut 1 h.2.2 (by decide))
theorem nm_push5 (h : VSt w W R 0 0 0) : Calls Try.prog 12 #[.pointer (some ⟨R, 0, none⟩), .int .u8 5] W fun e W' => e = .returned (.tuple #[.bool true, .int .i64 0]) ∧ VSt w W' R 5 1 1 :=
  vst_mut h (rd_push_last 5 h.2.2 (by decide) (by decide) (by decide))
theorem nm_push5b (h : VSt w W R 5 1 1) : Calls Try.prog 12 #[.pointer (some ⟨R, 0, none⟩), .int .u8 5] W fun e W' => e = .returned (.tuple #[.bool false, .int .i64 13]) ∧ VSt w W' R 5 1 1 :=
  vst_same h (rd_push_shut 5 h.2.2 (by decide))
theorem nm_value5 (h : VSt w W R 5 1 1) : Calls Try.prog 13 #[.pointer (some ⟨R, 0, none⟩)] W fun e W' => e = .returned (.tuple #[.int .i64 5, .bool true]) ∧ VSt w W' R 5 1 1 :=
  vst_same h (rd_value_yes h.2.2)
theorem nm_size2 (h : VSt w W R 0 2 2) : Calls Try.prog 14 #[.pointer (some ⟨R, 0, none⟩)] W fun e W' => e = .returned (.int .i64 2) ∧ VSt w W' R 0 2 2 :=
  vst_same h (rd_size h.2.2)
theorem nm_size1 (h : VSt w W R 5 1 1) : Calls Try.prog 14 #[.pointer (some ⟨R, 0, none⟩)] W fun e W' => e = .returned (.int .i64 1) ∧ VSt w W' R 5 1 1 :=
  vst_same h (rd_size h.2.2)
theorem nm_reset (h : VSt w W R v n st) : Calls Try.prog 15 #[.pointer (some ⟨R, 0, none⟩)] W fun e W' => e = .returned (.tuple #[]) ∧ VSt w W' R 0 0 0 :=
  vst_mut h (rd_reset h.2.2)
theorem nm_most (W : World) : Calls Try.prog 9 #[.int .i64 268435455] W fun e w' => e = .returned (.tuple #[.string ⟨#[255, 255, 255, 127]⟩, .int .i64 0]) ∧ Below W.heap.size W w' :=
  bytes_at 268435455 [255, 255, 255, 127] W (by decide) (by decide)
theorem nm_read2 (W : World) : Calls Try.prog 10 #[.string ⟨#[255, 127, 1]⟩] W fun e w' => e = .returned (.tuple #[.int .i64 16383, .int .i64 2, .int .i64 0]) ∧ Below W.heap.size W w' :=
  read_of (v := 16383) (n := 2) (st := 1) W (by decide) (by decide) rfl rfl rfl
theorem nm_bad1 (W : World) : Calls Try.prog 10 #[.string ⟨#[128, 0]⟩] W fun e w' => e = .returned (.tuple #[.int .i64 0, .int .i64 0, .int .i64 5]) ∧ Below W.heap.size W w' :=
  read_of (v := 0) (n := 2) (st := 2) W (by decide) (by decide) rfl rfl rfl
theorem nm_short (W : World) : Calls Try.prog 10 #[.string ⟨#[128, 128, 128]⟩] W fun e w' => e = .returned (.tuple #[.int .i64 0, .int .i64 0, .int .i64 3]) ∧ Below W.heap.size W w' :=
  read_of (v := 0) (n := 3) (st := 0) W (by decide) (by decide) rfl rfl rfl
theorem nm_bad2 (W : World) : Calls Try.prog 10 #[.string ⟨#[255, 255, 255, 255]⟩] W fun e w' => e = .returned (.tuple #[.int .i64 0, .int .i64 0, .int .i64 5]) ∧ Below W.heap.size W w' :=
  read_of (v := 268435455) (n := 4) (st := 2) W (by decide) (by decide) rfl rfl rfl
theorem nm_sz0 (W : World) : Calls Try.prog 16 #[.int .i64 0] W fun e w' => e = .returned (.int .i64 1) ∧ W = w' := size_any 0 W
theorem nm_szm (W : World) : Calls Try.prog 16 #[.int .i64 (-1)] W fun e w' => e = .returned (.int .i64 0) ∧ W = w' := size_any (-1) W
theorem nm_sz4 (W : World) : Calls Try.prog 16 #[.int .i64 2097152] W fun e w' => e = .returned (.int .i64 4) ∧ W = w' := size_any 2097152 W
end

set_option maxRecDepth 100000 in
set_option maxHeartbeats 4000000 in
theorem names_walk (w : World) :
    Calls Try.prog 3 #[] w fun e w' => e = .returned (.bool true) ∧ Below w.heap.size w w' := by
  go_enter Try.func3, Try.ntmps3
  go_wp2_with fail
  refine (lives2 _).mono ?_
  rintro e W ⟨rfl, hb⟩
  go_wp2_with fail
  refine (bytes_none (-1) _ (.inl (by decide))).mono ?_
  rintro e W ⟨rfl, rfl⟩
  go_wp2_with fail
  refine (bytes_none 268435456 _ (.inr (by decide))).mono ?_
  rintro e W ⟨rfl, rfl⟩
  go_wp2_with fail
  refine (nm_most _).mono ?_
  rintro e W ⟨rfl, h⟩
  replace hb := hb.trans (h.mono hb.size)
  clear h
  go_wp2_with fail
  refine (nm_bad1 _).mono ?_
  rintro e W ⟨rfl, h⟩
  replace hb := hb.trans (h.mono hb.size)
  clear h
  go_wp2_with fail
  refine (nm_short _).mono ?_
  rintro e W ⟨rfl, h⟩
  replace hb := hb.trans (h.mono hb.size)
  clear h
  go_wp2_with fail
  refine (nm_bad2 _).mono ?_
  rintro e W ⟨rfl, h⟩
  replace hb := hb.trans (h.mono hb.size)
  clear h
  go_wp2_with fail
  refine (nm_read2 _).mono ?_
  rintro e W ⟨rfl, h⟩
  replace hb := hb.trans (h.mono hb.size)
  clear h
  go_wp2_with fail
  refine (vst_new hb).mono ?_
  rintro e W ⟨R, rfl, hv⟩
  clear hb
  go_wp2_with fail
  refine (nm_push80 hv).mono ?_
  rintro e W ⟨rfl, hv⟩
  go_wp2_with fail
  refine (nm_push0 hv).mono ?_
  rintro e W ⟨rfl, hv⟩
  go_wp2_with fail
  refine (nm_push1 hv).mono ?_
  rintro e W ⟨rfl, hv⟩
  go_wp2_with fail
  refine (vst_same hv (rd_value_no hv.2.2 (by decide))).mono ?_
  rintro e W ⟨rfl, hv⟩
  go_wp2_with fail
  refine (nm_size2 hv).mono ?_
  rintro e W ⟨rfl, hv⟩
  go_wp2_with fail
  refine (nm_reset hv).mono ?_
  rintro e W ⟨rfl, hv⟩
  go_wp2_with fail
  refine (nm_push5 hv).mono ?_
  rintro e W ⟨rfl, hv⟩
  go_wp2_with fail
  refine (nm_push5b hv).mono ?_
  rintro e W ⟨rfl, hv⟩
  go_wp2_with fail
  refine (nm_value5 hv).mono ?_
  rintro e W ⟨rfl, hv⟩
  go_wp2_with fail
  refine (rd_push_nil 1 _).mono ?_
  rintro e W ⟨rfl, rfl⟩
  go_wp2_with fail
  refine (rd_value_nil _).mono ?_
  rintro e W ⟨rfl, rfl⟩
  go_wp2_with fail
  refine (nm_size1 hv).mono ?_
  rintro e W ⟨rfl, hv⟩
  go_wp2_with fail
  refine (nm_sz0 _).mono ?_
  rintro e W ⟨rfl, rfl⟩
  go_wp2_with fail
  refine (nm_szm _).mono ?_
  rintro e W ⟨rfl, rfl⟩
  go_wp2_with fail
  refine (nm_sz4 _).mono ?_
  rintro e W ⟨rfl, rfl⟩
  go_wp2_with fail
  refine (rd_size_nil _).mono ?_
  rintro e W ⟨rfl, rfl⟩
  go_wp2_with fail
  go_ret
  exact ⟨rfl, hv.1⟩

set_option maxRecDepth 100000 in
theorem names_lifted (os : Os) (started : os.Started) (H : Type) (enc : TypeId × Value → H) :
    ReturnsInHanded {} Try.checked os 3 .any (Rows.varintNamesSpec.pre6 enc Try.prog Try.f3 Rows.varintNamesRow.domain false) (Rows.varintNamesSpec.post enc Try.prog Try.f3 false true false false) := by
  refine returnsInHanded_of_change (C := Try.checked) own started (by kernel_rfl) Try.func3
    (ChangeSpec.witness6 (enc := enc) (C := Try.checked) false ⟨#[], #[], []⟩ 8 (by kernel_rfl) (by kernel_rfl) (by kernel_rfl) (by kernel_rfl)) ?_
  intro W base args ds gs before hval0 hW hcnd _
  have hW' := hW
  obtain ⟨p, q, hA0, hV, rfl, hfz, hnd⟩ := hW
  have hA : DataW.TrodAll enc Try.prog W 0 (fun _ => true) true Try.f3.params.toList args.toList ds p := hA0
  rw [Try.params3] at hA
  obtain ⟨hargs, rfl, rfl⟩ := trodAll_nil hA
  obtain rfl : args = #[] := by cases args; simp_all
  obtain ⟨rfl, rfl⟩ := trodVars_none hV
  refine (names_walk W).mono fun e W' ⟨he, hb⟩ => ?_
  subst he
  exact ⟨_, rfl, law_post (tb := 4) laidOut (by decide +kernel) (by kernel_rfl) Try.underlying4 rfl hW' rfl hb⟩

theorem varintNames_holds : Rows.VarintNamesSaid :=
  OpenClaim.holds_of_wide 3 Try.f3 rfl rfl rfl rfl rfl rfl rfl ⟨rfl, rfl, rfl, rfl, rfl⟩ rfl rfl rfl rfl rfl (by kernel_rfl) Try.func3 (by kernel_rfl)
    (of_decide_eq_true (by kernel_rfl)) (by unfold Func.isWrapper; first | (rw [if_pos (by decide +kernel)]; kernel_rfl) | (rw [if_neg (by decide +kernel)]; exact ⟨rfl, rfl⟩))
    (fun os started H enc _ => names_lifted os started H enc)
end Go.Proofs.Ytoaoabffgllbbaa
