/-
  Plain facts: the bytes of a number and the number of bytes, the highest first: each undoes the other. No condition.
-/
import Derived.Lib.Hide
namespace Go.Proofs.YtjbgnlnchchgcaaDoor

/-- The lowest c bytes of n, the highest first. -/
def be (n : Nat) : Nat → List UInt8
  | 0 => []
  | c + 1 => be (n / 256) c ++ [UInt8.ofNat n]

theorem be_length (c : Nat) : ∀ n, (be n c).length = c := by
  induction c with
  | zero => intro n; rfl
  | succ c ih => intro n; simp [be, ih]

theorem be_step (n c k : Nat) (hk : k < c) : be (n / 256 ^ (c - (k + 1))) (k + 1) = be (n / 256 ^ (c - k)) k ++ [UInt8.ofNat (n / 256 ^ (c - (k + 1)))] := by
  have e : c - k = (c - (k + 1)) + 1 := by omega
  rw [be, e, Nat.pow_succ, Nat.div_div_eq_div_mul]

/-- The number of bytes, the highest first. -/
def num (l : List UInt8) : Nat := l.foldl (fun a b => a * 256 + b.toNat) 0

theorem num_snoc (l : List UInt8) (b : UInt8) : num (l ++ [b]) = num l * 256 + b.toNat := by simp [num]

theorem num_lt (l : List UInt8) : num l < 256 ^ l.length := by
  have key : ∀ (k : Nat) (l : List UInt8), l.length = k → num l < 256 ^ k := by
    intro k
    induction k with
    | zero => intro l h; have : l = [] := List.eq_nil_of_length_eq_zero h; subst this; decide
    | succ k ih =>
      intro l h
      rcases List.eq_nil_or_concat l with rfl | ⟨l', b, rfl⟩
      · simp at h
      · simp at h
        have := ih l' h
        have hb := b.toNat_lt
        rw [List.concat_eq_append, num_snoc, Nat.pow_succ]
        omega
  exact key _ l rfl

theorem num_be (c : Nat) : ∀ n, num (be n c) = n % 256 ^ c := by
  induction c with
  | zero => intro n; simp [be, num, Nat.mod_one]
  | succ c ih =>
    intro n
    rw [be, num_snoc, ih, Nat.pow_succ, Nat.mul_comm (256 ^ c) 256, Nat.mod_mul, UInt8.toNat_ofNat']
    omega
theorem be_of_num (l : List UInt8) : be (num l) l.length = l := by
  have key : ∀ (k : Nat) (l : List UInt8), l.length = k → be (num l) k = l := by
    intro k
    induction k with
    | zero => intro l h; have : l = [] := List.eq_nil_of_length_eq_zero h; subst this; rfl
    | succ k ih =>
      intro l h
      rcases List.eq_nil_or_concat l with rfl | ⟨l', b, rfl⟩
      · simp at h
      · simp at h
        have hb := b.toNat_lt
        rw [List.concat_eq_append, num_snoc, be]
        have e : (num l' * 256 + b.toNat) / 256 = num l' := by omega
        rw [e, ih l' h]
        congr 2
        apply UInt8.toNat_inj.1
        rw [UInt8.toNat_ofNat']
        omega
  exact key _ l rfl

theorem num_inj (l l' : List UInt8) (h : l.length = l'.length) (e : num l = num l') : l = l' := by
  rw [← be_of_num l, ← be_of_num l', h, e]

end Go.Proofs.YtjbgnlnchchgcaaDoor
