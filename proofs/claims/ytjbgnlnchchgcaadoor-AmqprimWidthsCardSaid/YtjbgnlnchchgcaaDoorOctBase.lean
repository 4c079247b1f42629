/-
  Plain facts on bytes and numbers, and on a world in which blocks from a number on belong to the call. No condition.
-/
import Derived.Test.YtjbgnlnchchgcaaDoorKit
import Derived.Test.YtjbgnlnchchgcaaDoorOctNums
namespace Go.Proofs.YtjbgnlnchchgcaaDoor
open Go.RowKit

theorem shr_be (n j : Nat) (hn : n < 18446744073709551616) : Op.shift .shr .u64 (n : Int) .i64 ((8 * j : Nat) : Int) = pure (.int .u64 ((n / 256 ^ j : Nat) : Int)) := by
  have e256 : (256 : Nat) ^ j = 2 ^ (8 * j) := by rw [Nat.pow_mul]
  rw [shift_shr_any _ _ _ _ (by omega), e256]
  congr 2
  have e1 : ((8 * j : Nat) : Int).toNat = 8 * j := by omega
  rw [e1]
  show (n : Int) / 2 ^ min (8 * j) 64 = _
  rcases Nat.lt_or_ge (8 * j) 64 with h | h
  · rw [Nat.min_eq_left (by omega)]; simp
  · rw [Nat.min_eq_right h]
    have h2 : 2 ^ 64 ≤ 2 ^ (8 * j) := Nat.pow_le_pow_right (by decide) h
    rw [Nat.div_eq_of_lt (by omega)]
    show (n : Int) / 18446744073709551616 = 0
    omega

end Go.Proofs.YtjbgnlnchchgcaaDoor
