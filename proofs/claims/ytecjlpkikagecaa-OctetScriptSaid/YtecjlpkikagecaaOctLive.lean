/-
  The contracts of what layer 1's laws share: the chapter's examples, and a number modulo another one. No condition.
-/
import Derived.Test.YtecjlpkikagecaaOctPut
import Derived.Test.YtecjlpkikagecaaOctCur
namespace Go.Proofs.Ytecjlpkikagecaa
open Go.RowKit

theorem put_258 (w : World) :
    Calls Try.prog 17 #[.int .u64 258, .int .i64 2] w fun e w' => e = .returned (.string ⟨#[1, 2]⟩) ∧ Below w.heap.size w w' := by
  have h := put_any 258 2 w (by decide)
  have e : bs (be 258 (min (2 : Int) 16).toNat) = ⟨#[1, 2]⟩ := by decide
  rw [e] at h
  exact h
theorem get_12 (w : World) :
    Calls Try.prog 18 #[.string ⟨#[1, 2]⟩] w fun e w' => e = .returned (.int .u64 258) ∧ w = w' := by
  have h := get_of ⟨#[1, 2]⟩ w (by decide)
  have e : numOf ⟨#[1, 2]⟩ = 258 := by decide
  rw [e] at h
  exact h

theorem lives_any (w : World) :
    Calls Try.prog 7 #[] w fun e w' => e = .returned (.bool true) ∧ Below w.heap.size w w' := by
  go_enter Try.func7, Try.ntmps7
  go_wp2_with (first
    | (go_at_call 17; refine (put_258 _).mono ?_; rintro e w1 ⟨rfl, hb⟩)
    | (go_at_call 18; refine (get_12 _).mono ?_; rintro e w' ⟨rfl, rfl⟩))
  go_ret
  exact ⟨rfl, hb⟩

/-- n modulo m, from 0 on. -/
theorem pick_any (n m : Int) (w : World) (h0 : 0 < m) (h1 : m ≤ 1000000) :
    Calls Try.prog 20 #[.int .i64 n, .int .i64 m] w fun e w' => e = .returned (.int .i64 (n % m)) ∧ w = w' := by
  have hm : ¬ m < 1 := by omega
  have hz : ¬ m = 0 := by omega
  have b1 := Int.tmod_lt_of_pos n (show 0 < m by omega)
  have b2 := Int.lt_tmod_of_pos n (show 0 < m by omega)
  have b3 := Int.emod_nonneg n hz
  have b4 := Int.emod_lt_of_pos n (show 0 < m by omega)
  have e0 := @Int.tmod_eq_emod n m
  by_cases hk : n.tmod m < 0
  · have e1 : n.tmod m + m = n % m := by split at e0 <;> omega
    have E1 := Lib.hid e1
    clear e1 e0 b3 b4
    go_enter Try.func20, Try.ntmps20
    go_wp2
    go_ret
    exact ⟨by rw [← E1.out]; rfl, rfl⟩
  · have e1 : n.tmod m = n % m := by split at e0 <;> omega
    have E1 := Lib.hid e1
    clear e1 e0 b3 b4
    go_enter Try.func20, Try.ntmps20
    go_wp2
    go_ret
    exact ⟨by rw [← E1.out]; rfl, rfl⟩
end Go.Proofs.Ytecjlpkikagecaa
