/-
  The contract of octet.Cursor.At. No condition.
  What a law that makes cursors keeps in hand: what was there before the call has not turned, and what the cursor is. No condition.
  Plain facts: numbers and their bytes correspond, and are ordered alike. No condition.
-/
import Derived.Test.YtaahhbjnflimnaaGreatK49
namespace Go.Proofs.YtaahhbjnflimnaaGreat
open Go.RowKit

theorem at_yes {w : World} {b : Nat} {s : ByteArray} {i : Nat} {e : Int} (hc : Cur w b s i e) :
    Calls Tryz.prog 227 #[.pointer (some ⟨b, 0, none⟩)] w fun e' w' => e' = .returned (.int .i64 i) ∧ w = w' := by
  have h2 := hc.c2
  go_enter Tryz.func227, Tryz.ntmps227
  go_wp2_with (go_at_call 118; refine (valid_yes hc).mono ?_; rintro e' w' ⟨rfl, rfl⟩)
  go_ret
  exact ⟨rfl, rfl⟩
theorem at_nil (w : World) :
    Calls Tryz.prog 227 #[.pointer none] w fun e' w' => e' = .returned (.int .i64 0) ∧ w = w' := by
  go_enter Tryz.func227, Tryz.ntmps227
  go_wp2_with (go_at_call 118; refine (valid_nil _).mono ?_; rintro e' w' ⟨rfl, rfl⟩)
  go_ret
  exact ⟨rfl, rfl⟩
end Go.Proofs.YtaahhbjnflimnaaGreat
namespace Go.Proofs.YtaahhbjnflimnaaGreat
open Go.RowKit

/-- Since w the call has made cursor B, and turned nothing that was there. -/
def St (w W : World) (B : Nat) (s : ByteArray) (i : Nat) (e : Int) : Prop := Below w.heap.size w W ∧ w.heap.size ≤ B ∧ Cur W B s i e
def St2 (w W : World) (B : Nat) (s : ByteArray) (i : Nat) (e : Int) (D : Nat) (t : ByteArray) (j : Nat) (f : Int) : Prop := St w W B s i e ∧ St w W D t j f ∧ B ≠ D

section
variable {w W W' : World} {B D : Nat} {s t : ByteArray} {i i' j j' : Nat} {e e2 f f2 : Int} {g : FuncId} {args : Array Value} {v v' : Value}
theorem St.draws (h : St w W B s i e) (n : Nat) : St w (W.drewN n) B s i e := ⟨below_draws h.1 n, h.2.1, h.2.2.draws n⟩
theorem St.step (h : St w W B s i e) (hc : Cur W' B s i' e2) (hg : W.grownBy W' (some B)) : St w W' B s i' e2 :=
  ⟨h.1.grown hg h.1.size (fun k hk => by cases hk; exact h.2.1), h.2.1, hc⟩
theorem St.other (h : St w W B s i e) (hD : w.heap.size ≤ D) (hne : B ≠ D) (hg : W.grownBy W' (some D)) : St w W' B s i e :=
  ⟨h.1.grown hg h.1.size (fun k hk => by cases hk; exact hD), h.2.1, h.2.2.of_block (hg.block B h.2.2.lt (fun e => hne (by injection e)))⟩
theorem St.below (h : St w W B s i e) (hb : Below W.heap.size W W') : St w W' B s i e :=
  ⟨h.1.trans (hb.mono h.1.size), h.2.1, h.2.2.of_block (hb.block B h.2.2.lt)⟩

theorem st_new (h : Below w.heap.size w W) (s : ByteArray) : Calls Tryz.prog 50 #[.string s] W fun e W' => ∃ B, e = .returned (.pointer (some ⟨B, 0, none⟩)) ∧ St w W' B s 0 0 :=
  (new_any s W).mono fun _ _ ⟨he, hc, hb, _⟩ => ⟨_, he, h.trans (hb.mono h.size), h.size, hc⟩
theorem st_new2 (h : St w W B s i e) (t : ByteArray) : Calls Tryz.prog 50 #[.string t] W fun e' W' => ∃ D, e' = .returned (.pointer (some ⟨D, 0, none⟩)) ∧ St2 w W' B s i e D t 0 0 :=
  (new_any t W).mono fun _ _ ⟨he, hc, hb, _⟩ => ⟨_, he, h.below hb, ⟨h.1.trans (hb.mono h.1.size), h.1.size, hc⟩, Nat.ne_of_lt h.2.2.lt⟩
theorem st_mut (h : St w W B s i e) (hv : v = v') (hcall : Calls Tryz.prog g args W fun e' W' => e' = .returned v ∧ Cur W' B s i' e2 ∧ W.grownBy W' (some B)) :
    Calls Tryz.prog g args W fun e' W' => e' = .returned v' ∧ St w W' B s i' e2 := hcall.mono fun _ _ ⟨he, hc, hg⟩ => ⟨hv ▸ he, h.step hc hg⟩
theorem st_quiet (h : St w W B s i e) (hv : v = v') (hcall : Calls Tryz.prog g args W fun e' W' => e' = .returned v ∧ ∃ n, W' = W.drewN n) :
    Calls Tryz.prog g args W fun e' W' => e' = .returned v' ∧ St w W' B s i e := hcall.mono fun _ _ ⟨he, n, hw⟩ => ⟨hv ▸ he, hw ▸ h.draws n⟩
theorem st_same (h : St w W B s i e) (hv : v = v') (hcall : Calls Tryz.prog g args W fun e' W' => e' = .returned v ∧ W = W') :
    Calls Tryz.prog g args W fun e' W' => e' = .returned v' ∧ St w W' B s i e := hcall.mono fun _ _ ⟨he, hw⟩ => ⟨hv ▸ he, hw ▸ h⟩
theorem st_mutD (h : St2 w W B s i e D t j f) (hv : v = v') (hcall : Calls Tryz.prog g args W fun e' W' => e' = .returned v ∧ Cur W' D t j' f2 ∧ W.grownBy W' (some D)) :
    Calls Tryz.prog g args W fun e' W' => e' = .returned v' ∧ St2 w W' B s i e D t j' f2 := hcall.mono fun _ _ ⟨he, hc, hg⟩ => ⟨hv ▸ he, h.1.other h.2.1.2.1 h.2.2 hg, h.2.1.step hc hg, h.2.2⟩
theorem st_quiet2 (h : St2 w W B s i e D t j f) (hv : v = v') (hcall : Calls Tryz.prog g args W fun e' W' => e' = .returned v ∧ ∃ n, W' = W.drewN n) :
    Calls Tryz.prog g args W fun e' W' => e' = .returned v' ∧ St2 w W' B s i e D t j f := hcall.mono fun _ _ ⟨he, n, hw⟩ => ⟨hv ▸ he, hw ▸ h.1.draws n, hw ▸ h.2.1.draws n, h.2.2⟩
theorem st_same2 (h : St2 w W B s i e D t j f) (hv : v = v') (hcall : Calls Tryz.prog g args W fun e' W' => e' = .returned v ∧ W = W') :
    Calls Tryz.prog g args W fun e' W' => e' = .returned v' ∧ St2 w W' B s i e D t j f := hcall.mono fun _ _ ⟨he, hw⟩ => ⟨hv ▸ he, hw ▸ h⟩
end

end Go.Proofs.YtaahhbjnflimnaaGreat
namespace Go.Proofs.YtaahhbjnflimnaaGreat
open Go.RowKit

theorem less_snoc (a b : UInt8) : ∀ (l l' : List UInt8), l.length = l'.length → Op.bytesLess (l ++ [a]) (l' ++ [b]) = (Op.bytesLess l l' || (l == l' && decide (a < b)))
  | [], [], _ => by simp [Op.bytesLess]
  | x :: l, y :: l', h => by
    have ih := less_snoc a b l l' (by simpa using h)
    simp only [List.cons_append, Op.bytesLess, ih]
    by_cases e1 : x < y
    · simp [e1]
    · by_cases e2 : x = y
      · subst e2; simp
      · have e3 : (x == y) = false := by simpa using e2
        simp [e1, e3]

theorem less_num : ∀ (k : Nat) (l l' : List UInt8), l.length = k → l'.length = k → Op.bytesLess l l' = decide (num l < num l') := by
  intro k
  induction k with
  | zero =>
    intro l l' h h'
    have : l = [] := List.eq_nil_of_length_eq_zero h
    have : l' = [] := List.eq_nil_of_length_eq_zero h'
    subst_vars
    simp [Op.bytesLess]
  | succ k ih =>
    intro l l' h h'
    rcases List.eq_nil_or_concat l with rfl | ⟨m, a, rfl⟩
    · simp at h
    rcases List.eq_nil_or_concat l' with rfl | ⟨m', b, rfl⟩
    · simp at h'
    simp at h h'
    rw [List.concat_eq_append, List.concat_eq_append, less_snoc a b m m' (by omega), ih m m' h h', num_snoc, num_snoc]
    have ha := a.toNat_lt
    have hb := b.toNat_lt
    have e1 : (m == m') = decide (num m = num m') := by
      by_cases e : m = m'
      · subst e; simp
      · have : ¬ num m = num m' := fun e' => e (num_inj m m' (by omega) e')
        simp [e, this]
    rw [e1, Bool.eq_iff_iff]
    simp [UInt8.lt_iff_toNat_lt]
    omega

theorem less_be (n m c : Nat) : Op.bytesLess (bs (be n c)).toList (bs (be m c)).toList = decide (n % 256 ^ c < m % 256 ^ c) := by
  rw [bs_toList, bs_toList, less_num c _ _ (be_length c n) (be_length c m), num_be, num_be]
theorem eq_be (n m c : Nat) : ((bs (be n c)).toList == (bs (be m c)).toList) = (((n % 256 ^ c : Nat) : Int) == ((m % 256 ^ c : Nat) : Int)) := by
  rw [bs_toList, bs_toList, Bool.eq_iff_iff, beq_iff_eq, beq_iff_eq]
  constructor
  · intro h
    rw [← num_be c n, ← num_be c m, h]
  · intro h
    exact num_inj _ _ (by simp [be_length]) (by rw [num_be, num_be]; omega)
theorem numOf_be (n c : Nat) (hc : c ≤ 8) : num ((bs (be n c)).data.toList.drop ((bs (be n c)).size - 8)) = n % 256 ^ c := by
  have e : (bs (be n c)).size = c := by simp [bs, ByteArray.size, be_length]
  rw [e, show c - 8 = 0 by omega]
  simp [bs, num_be]

theorem and_mask (n c : Nat) (hn : n < 18446744073709551616) (hc : c < 8) : bits .and .u64 (n : Int) (IntKind.u64.wrap (IntKind.u64.wrap (2 ^ (8 * c)) - 1)) = ((n % 256 ^ c : Nat) : Int) := by
  have e256 : (256 : Nat) ^ c = 2 ^ (8 * c) := by rw [Nat.pow_mul]
  have hle : (2 : Nat) ^ (8 * c) ≤ 2 ^ 56 := Nat.pow_le_pow_right (by decide) (by omega)
  have hpos : 0 < (2 : Nat) ^ (8 * c) := Nat.pow_pos (by decide)
  have ei : ((2 : Int) ^ (8 * c)) = ((2 ^ (8 * c) : Nat) : Int) := by simp
  have e1 : IntKind.u64.wrap (IntKind.u64.wrap (2 ^ (8 * c)) - 1) = ((2 ^ (8 * c) - 1 : Nat) : Int) := by
    rw [ei]
    generalize 2 ^ (8 * c) = M at hle hpos
    simp only [IntKind.wrap_u64]
    omega
  rw [e1, bits_and_u64_nat _ _ hn (by omega), Nat.and_two_pow_sub_one_eq_mod, e256]
theorem and_all (n : Nat) (hn : n < 18446744073709551616) : bits .and .u64 (n : Int) 18446744073709551615 = (n : Int) := by
  have h := bits_and_u64_nat n 18446744073709551615 hn (by decide)
  have e : n &&& 18446744073709551615 = n := by
    have := Nat.and_two_pow_sub_one_eq_mod n 64
    rw [Nat.mod_eq_of_lt hn] at this
    exact this
  rw [e] at h
  exact h
end Go.Proofs.YtaahhbjnflimnaaGreat
