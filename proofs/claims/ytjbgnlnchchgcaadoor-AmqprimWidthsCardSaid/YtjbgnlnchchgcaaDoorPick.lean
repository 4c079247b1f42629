/-
  The contract of polyglotkit.Pick: a number modulo another one. No condition.
-/
import Derived.Test.YtjbgnlnchchgcaaDoorKit
namespace Go.Proofs.YtjbgnlnchchgcaaDoor
open Go.RowKit

/-- n modulo m, from 0 on. -/
theorem pick_any (n m : Int) (w : World) (h0 : 0 < m) (h1 : m ≤ 1000000000000) :
    Calls Tryd.prog 31 #[.int .i64 n, .int .i64 m] w fun e w' => e = .returned (.int .i64 (n % m)) ∧ w = w' := by
  have hm : ¬ m < 1 := by omega
  have hz : ¬ m = 0 := by omega
  have b1 := Int.tmod_lt_of_pos n (show 0 < m by omega)
  have b2 := Int.lt_tmod_of_pos n (show 0 < m by omega)
  have b3 := Int.emod_nonneg n hz
  have b4 := Int.emod_lt_of_pos n (show 0 < m by omega)
  have e0 := @Int.tmod_eq_emod n m
  by_cases hk : n.tmod m < 0
  · have e1 : n.tmod m + m = n % m := by split at e0 <;> omega
    have E1 := Lib.hid e1
    clear e1 e0 b3 b4
    go_enter Tryd.func31, Tryd.ntmps31
    go_wp2
    go_ret
    exact ⟨by rw [← E1.out]; rfl, rfl⟩
  · have e1 : n.tmod m = n % m := by split at e0 <;> omega
    have E1 := Lib.hid e1
    clear e1 e0 b3 b4
    go_enter Tryd.func31, Tryd.ntmps31
    go_wp2
    go_ret
    exact ⟨by rw [← E1.out]; rfl, rfl⟩
end Go.Proofs.YtjbgnlnchchgcaaDoor
