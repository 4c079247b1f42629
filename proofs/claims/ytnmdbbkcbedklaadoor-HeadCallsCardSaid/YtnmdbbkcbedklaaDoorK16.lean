/-
  From the row's list of tables to what the walks ask. Condition: none.
-/
import Derived.Lay
import Derived.LaidMore
import Derived.Stop.LaidErr
import Derived.Test.YtnmdbbkcbedklaaDoorK15
namespace Go.Proofs.YtnmdbbkcbedklaaDoor

theorem names_laid {W : World} (h0 : laidMetH Tryd.prog [("polyglot/head.names", Rows.laid_polyglot_head_names)] W) : Names W := by
  have h : laidMet Tryd.prog [("polyglot/head.names", Rows.laid_polyglot_head_names)] W := by
    rw [← MakeChecks.laidMetH_plain _ _ _ (by kernel_rfl)]; exact h0
  have h1 : laidMet Tryd.prog [("polyglot/head.names", strTab namesL)] W := h
  exact strTab_of_head (P := Tryd.prog) (ss := namesL) (g := 0) (by kernel_rfl) (by kernel_rfl) Tryd.underlying80 Tryd.underlying9 (by kernel_rfl) (by kernel_rfl) h1
end Go.Proofs.YtnmdbbkcbedklaaDoor
