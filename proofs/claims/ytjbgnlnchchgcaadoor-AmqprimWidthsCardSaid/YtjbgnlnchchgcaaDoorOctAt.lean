/-
  The contract of octet.Cursor.At. No condition.
-/
import Derived.Test.YtjbgnlnchchgcaaDoorOctCur
namespace Go.Proofs.YtjbgnlnchchgcaaDoor
open Go.RowKit

theorem at_yes {w : World} {b : Nat} {s : ByteArray} {i : Nat} {e : Int} (hc : Cur w b s i e) :
    Calls Tryd.prog 42 #[.pointer (some ⟨b, 0, none⟩)] w fun e' w' => e' = .returned (.int .i64 i) ∧ w = w' := by
  have h2 := hc.c2
  go_enter Tryd.func42, Tryd.ntmps42
  go_wp2_with (go_at_call 65; refine (valid_yes hc).mono ?_; rintro e' w' ⟨rfl, rfl⟩)
  go_ret
  exact ⟨rfl, rfl⟩
theorem at_nil (w : World) :
    Calls Tryd.prog 42 #[.pointer none] w fun e' w' => e' = .returned (.int .i64 0) ∧ w = w' := by
  go_enter Tryd.func42, Tryd.ntmps42
  go_wp2_with (go_at_call 65; refine (valid_nil _).mono ?_; rintro e' w' ⟨rfl, rfl⟩)
  go_ret
  exact ⟨rfl, rfl⟩
end Go.Proofs.YtjbgnlnchchgcaaDoor
