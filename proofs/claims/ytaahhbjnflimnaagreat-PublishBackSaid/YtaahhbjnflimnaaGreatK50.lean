/-
  polyglotkit.None at the packet that is nothing. No condition.
-/
import Derived.Great.BuildSlice
import Derived.Test.YtaahhbjnflimnaaGreatK30
import Derived.Test.YtaahhbjnflimnaaGreatK16
namespace Go.Proofs.YtaahhbjnflimnaaGreat
open Go.RowKit

set_option maxRecDepth 100000 in
/-- polyglotkit.None at the packet that is nothing. -/
theorem none_zero (w : World) : Calls Tryz.prog 31 #[.agg pkZ] w fun e w' => e = .returned (.bool true) ∧ Below w.heap.size w w' := by
  have B0 := Lib.hid (below_box (w := w) (.cells pkZ 28))
  have SM := fun W => ksame_pk Pk.zero adZ adZ W (zero_at W) (zero_at W) (by decide) (by decide) (by decide) (by decide)
  unfold pkV at SM
  rw [pkC_zero] at SM
  have SM := Lib.hid SM
  have HZ := Lib.hid pkZ_size
  have hzv := zero_pk
  have hne : ¬ pkZ = #[] := by intro h; have := pkZ_size; rw [h] at this; cases this
  go_enter Tryz.func31, Tryz.ntmps31
  go_wp2_with (first
    | (refine wpList_load_row rfl _ _ rfl w.heap.size rfl 28 pkZ (0, 0) _ (heap_alloc_new w _) Tryz.underlying28 rfl (by rw [HZ.out]; exact info_pk) ?_)
    | (refine wpList_buildTo rfl 28 _ rfl (some 4) rfl pkZ (by kernel_rfl) ?_))
  refine (SM.out _).mono ?_
  rintro e W ⟨rfl, hb⟩
  have LO := Lib.hid (below_then B0.out hb)
  clear hb
  go_wp2_with fail
  go_ret
  exact ⟨rfl, LO.out⟩
end Go.Proofs.YtaahhbjnflimnaaGreat
