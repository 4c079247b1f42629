/-
  Plain facts: numbers and their bytes correspond, and are ordered alike. No condition.
-/
import Derived.Test.YtgdaojihpjfjiaaOctGet
namespace Go.Proofs.Ytgdaojihpjfjiaa
open Go.RowKit

theorem less_snoc (a b : UInt8) : ∀ (l l' : List UInt8), l.length = l'.length → Op.bytesLess (l ++ [a]) (l' ++ [b]) = (Op.bytesLess l l' || (l == l' && decide (a < b)))
  | [], [], _ => by simp [Op.bytesLess]
  | x :: l, y :: l', h => by
    have ih := less_snoc a b l l' (by simpa using h)
    simp only [List.cons_append, Op.bytesLess, ih]
    by_cases e1 : x < y
    · simp [e1]
    · by_cases e2 : x = y
      · subst e2; simp
      · have e3 : (x == y) = false := by simpa using e2
        simp [e1, e3]

theorem less_num : ∀ (k : Nat) (l l' : List UInt8), l.length = k → l'.length = k → Op.bytesLess l l' = decide (num l < num l') := by
  intro k
  induction k with
  | zero =>
    intro l l' h h'
    have : l = [] := List.eq_nil_of_length_eq_zero h
    have : l' = [] := List.eq_nil_of_length_eq_zero h'
    subst_vars
    simp [Op.bytesLess]
  | succ k ih =>
    intro l l' h h'
    rcases List.eq_nil_or_concat l with rfl | ⟨m, a, rfl⟩
    · simp at h
    rcases List.eq_nil_or_concat l' with rfl | ⟨m', b, rfl⟩
    · simp at h'
    simp at h h'
    rw [List.concat_eq_append, List.concat_eq_append, less_snoc a b m m' (by omega), ih m m' h h', num_snoc, num_snoc]
    have ha := a.toNat_lt
    have hb := b.toNat_lt
    have e1 : (m == m') = decide (num m = num m') := by
      by_cases e : m = m'
      · subst e; simp
      · have : ¬ num m = num m' := fun e' => e (num_inj m m' (by omega) e')
        simp [e, this]
    rw [e1, Bool.eq_iff_iff]
    simp [UInt8.lt_iff_toNat_lt]
    omega

theorem less_be (n m c : Nat) : Op.bytesLess (bs (be n c)).toList (bs (be m c)).toList = decide (n % 256 ^ c < m % 256 ^ c) := by
  rw [bs_toList, bs_toList, less_num c _ _ (be_length c n) (be_length c m), num_be, num_be]
theorem eq_be (n m c : Nat) : ((bs (be n c)).toList == (bs (be m c)).toList) = (((n % 256 ^ c : Nat) : Int) == ((m % 256 ^ c : Nat) : Int)) := by
  rw [bs_toList, bs_toList, Bool.eq_iff_iff, beq_iff_eq, beq_iff_eq]
  constructor
  · intro h
    rw [← num_be c n, ← num_be c m, h]
  · intro h
    exact num_inj _ _ (by simp [be_length]) (by rw [num_be, num_be]; omega)
theorem numOf_be (n c : Nat) (hc : c ≤ 8) : num ((bs (be n c)).data.toList.drop ((bs (be n c)).size - 8)) = n % 256 ^ c := by
  have e : (bs (be n c)).size = c := by simp [bs, ByteArray.size, be_length]
  rw [e, show c - 8 = 0 by omega]
  simp [bs, num_be]

theorem and_mask (n c : Nat) (hn : n < 18446744073709551616) (hc : c < 8) : bits .and .u64 (n : Int) (IntKind.u64.wrap (IntKind.u64.wrap (2 ^ (8 * c)) - 1)) = ((n % 256 ^ c : Nat) : Int) := by
  have e256 : (256 : Nat) ^ c = 2 ^ (8 * c) := by rw [Nat.pow_mul]
  have hle : (2 : Nat) ^ (8 * c) ≤ 2 ^ 56 := Nat.pow_le_pow_right (by decide) (by omega)
  have hpos : 0 < (2 : Nat) ^ (8 * c) := Nat.pow_pos (by decide)
  have ei : ((2 : Int) ^ (8 * c)) = ((2 ^ (8 * c) : Nat) : Int) := by simp
  have e1 : IntKind.u64.wrap (IntKind.u64.wrap (2 ^ (8 * c)) - 1) = ((2 ^ (8 * c) - 1 : Nat) : Int) := by
    rw [ei]
    generalize 2 ^ (8 * c) = M at hle hpos
    simp only [IntKind.wrap_u64]
    omega
  rw [e1, bits_and_u64_nat _ _ hn (by omega), Nat.and_two_pow_sub_one_eq_mod, e256]
theorem and_all (n : Nat) (hn : n < 18446744073709551616) : bits .and .u64 (n : Int) 18446744073709551615 = (n : Int) := by
  have h := bits_and_u64_nat n 18446744073709551615 hn (by decide)
  have e : n &&& 18446744073709551615 = n := by
    have := Nat.and_two_pow_sub_one_eq_mod n 64
    rw [Nat.mod_eq_of_lt hn] at this
    exact this
  rw [e] at h
  exact h
end Go.Proofs.Ytgdaojihpjfjiaa
