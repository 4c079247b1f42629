/-
  The contracts of polyglotkit.N and T: values without items. No condition.
-/
import Derived.Test.YtjbgnlnchchgcaaDoorKit
import Derived.Test.YtjbgnlnchchgcaaDoorVaPlain
namespace Go.Proofs.YtjbgnlnchchgcaaDoor
open Go.RowKit

theorem info_va : (Tryd.prog.info? 26).map (·.size) = some 4 := by kernel_rfl
theorem kit_n (k : Int) (n : Nat) (w : World) : Calls Tryd.prog 10 #[.int .i64 k, .int .u64 (n : Nat)] w fun e W => e = .returned (.agg (avC (.mk k n [] none 0 []))) ∧ Below w.heap.size w W := by
  go_in
  go_wp2_with fail
  exact ret_row (cs := #[.int .i64 k, .int .u64 (n : Nat), .string ⟨#[]⟩, .slice none 0 0]) rfl rfl rfl Tryd.underlying26 rfl info_va (heap_alloc_new w _) ⟨rfl, below_box _⟩
theorem kit_t (k : Int) (s : ByteArray) (w : World) : Calls Tryd.prog 11 #[.int .i64 k, .string s] w fun e W => e = .returned (.agg (avC (.mk k 0 s.data.toList none 0 []))) ∧ Below w.heap.size w W := by
  go_in
  go_wp2_with fail
  exact ret_row (cs := #[.int .i64 k, .int .u64 0, .string s, .slice none 0 0]) rfl rfl rfl Tryd.underlying26 rfl info_va (heap_alloc_new w _) ⟨rfl, below_box _⟩
/-- A value without items lies anywhere. -/
theorem vat_flat {W : World} {d : Nat} (k : Int) (n : Nat) (t : List UInt8) : VAt (d + 1) W (.mk k n t none 0 []) :=
  ⟨Nat.le_refl _, fun _ => rfl, fun h => absurd h (Nat.lt_irrefl _), fun _ hx => nomatch hx⟩
end Go.Proofs.YtjbgnlnchchgcaaDoor
