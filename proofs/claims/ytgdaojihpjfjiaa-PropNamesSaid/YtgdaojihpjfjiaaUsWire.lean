/-
  Plain facts: a string or binary data as two bytes of length and the bytes; what is read of them. No condition.
-/
import Derived.Test.YtgdaojihpjfjiaaUsPlain
import Derived.Test.YtgdaojihpjfjiaaOctNums
namespace Go.Proofs.Ytgdaojihpjfjiaa

/-- The encoding: the length in two bytes, and the bytes. -/
def enc2 (l : List UInt8) : List UInt8 := be l.length 2 ++ l
theorem enc2_length (l : List UInt8) : (enc2 l).length = l.length + 2 := by simp [enc2, be_length]; omega
theorem num2_lt (l : List UInt8) : num (l.take 2) < 65536 := by
  have h := num_lt (l.take 2)
  have hl : (l.take 2).length ≤ 2 := by simp; omega
  have := Nat.pow_le_pow_right (show 0 < 256 by decide) hl
  omega

/-- What ReadBinary tells of its bytes. -/
def rdB (l : List UInt8) : List UInt8 × Nat × Nat :=
  if 2 ≤ l.length ∧ 2 + num (l.take 2) ≤ l.length then ((l.drop 2).take (num (l.take 2)), 2 + num (l.take 2), 0) else ([], 0, 3)
/-- What Read tells. -/
def rdT (l : List UInt8) : List UInt8 × Nat × Nat :=
  if (rdB l).2.2 ≠ 0 then ([], 0, 3) else if validOf (rdB l).1 then rdB l else ([], 0, 6)
theorem rdB_cases (l : List UInt8) : ((rdB l).2.2 = 0 ∧ (rdB l).1.length + 2 = (rdB l).2.1 ∧ (rdB l).2.1 ≤ l.length ∧ (rdB l).2.1 < 65538 ∧ l.take (rdB l).2.1 = enc2 (rdB l).1) ∨ rdB l = ([], 0, 3) := by
  unfold rdB
  split
  · rename_i h
    refine .inl ⟨rfl, ?_, h.2, by have := num2_lt l; simp; omega, ?_⟩
    · simp; omega
    · have hl : ((l.drop 2).take (num (l.take 2))).length = num (l.take 2) := by simp; omega
      have hb := be_of_num (l.take 2)
      have h2 : (l.take 2).length = 2 := by simp; omega
      rw [h2] at hb
      show l.take (2 + num (l.take 2)) = enc2 _
      rw [enc2, hl, hb, List.take_add]
  · exact .inr rfl

end Go.Proofs.Ytgdaojihpjfjiaa
