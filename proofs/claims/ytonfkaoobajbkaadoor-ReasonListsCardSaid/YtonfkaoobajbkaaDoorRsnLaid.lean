/-
  From the row's list of tables to what the walks ask. Condition: none.
-/
import Derived.Lay
import Derived.LaidMore
import Derived.Stop.LaidErr
import Derived.Test.YtonfkaoobajbkaaDoorRsnTabs
namespace Go.Proofs.YtonfkaoobajbkaaDoor

theorem tabs_laid {W : World} (h0 : laidMetH Tryd.prog [("math/bits.deBruijn32tab", Rows.laid_math_bits_deBruijn32tab), ("math/bits.deBruijn64tab", Rows.laid_math_bits_deBruijn64tab), ("internal/strconv.uint64pow10", Rows.laid_internal_strconv_uint64pow10), ("polyglot/reason.later", Rows.laid_polyglot_reason_later)] W) : Tabs W := by
  have h : laidMet Tryd.prog [("math/bits.deBruijn32tab", Rows.laid_math_bits_deBruijn32tab), ("math/bits.deBruijn64tab", Rows.laid_math_bits_deBruijn64tab), ("internal/strconv.uint64pow10", Rows.laid_internal_strconv_uint64pow10), ("polyglot/reason.later", Rows.laid_polyglot_reason_later)] W := by
    rw [← MakeChecks.laidMetH_plain _ _ _ (by kernel_rfl)]; exact h0
  have h1 := h.tail
  have h3 := h1.tail.tail
  exact ⟨Lib.tabIs_of_head (P := Tryd.prog) (k := .i64) (zs := laterR) (g := 0) (by kernel_rfl) (by kernel_rfl) Tryd.underlying32 Tryd.underlying3 (by kernel_rfl) (by kernel_rfl) h3,
    Lib.tabIs_of_head (P := Tryd.prog) (k := .u8) (zs := debr) (g := 3) (by kernel_rfl) (by kernel_rfl) Tryd.underlying57 Tryd.underlying5 (by kernel_rfl) (by kernel_rfl) h1⟩
end Go.Proofs.YtonfkaoobajbkaaDoor
