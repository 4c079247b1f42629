/-
  Plain facts: numbers and their bytes correspond, and are ordered alike. No condition.
  The contracts of ustring.Binary, Text, ReadBinary and Read. Condition: a string is no longer than an int says.
-/
import Derived.Test.YtbgpcmbaodjibaaGreatK43
import Derived.Test.YtbgpcmbaodjibaaGreatK30
import Derived.Test.YtbgpcmbaodjibaaGreatK05
import Derived.Test.YtbgpcmbaodjibaaGreatK15
namespace Go.Proofs.YtbgpcmbaodjibaaGreat
open Go.RowKit

theorem less_snoc (a b : UInt8) : ∀ (l l' : List UInt8), l.length = l'.length → Op.bytesLess (l ++ [a]) (l' ++ [b]) = (Op.bytesLess l l' || (l == l' && decide (a < b)))
  | [], [], _ => by simp [Op.bytesLess]
  | x :: l, y :: l', h => by
    have ih := less_snoc a b l l' (by simpa using h)
    simp only [List.cons_append, Op.bytesLess, ih]
    by_cases e1 : x < y
    · simp [e1]
    · by_cases e2 : x = y
      · subst e2; simp
      · have e3 : (x == y) = false := by simpa using e2
        simp [e1, e3]

theorem less_num : ∀ (k : Nat) (l l' : List UInt8), l.length = k → l'.length = k → Op.bytesLess l l' = decide (num l < num l') := by
  intro k
  induction k with
  | zero =>
    intro l l' h h'
    have : l = [] := List.eq_nil_of_length_eq_zero h
    have : l' = [] := List.eq_nil_of_length_eq_zero h'
    subst_vars
    simp [Op.bytesLess]
  | succ k ih =>
    intro l l' h h'
    rcases List.eq_nil_or_concat l with rfl | ⟨m, a, rfl⟩
    · simp at h
    rcases List.eq_nil_or_concat l' with rfl | ⟨m', b, rfl⟩
    · simp at h'
    simp at h h'
    rw [List.concat_eq_append, List.concat_eq_append, less_snoc a b m m' (by omega), ih m m' h h', num_snoc, num_snoc]
    have ha := a.toNat_lt
    have hb := b.toNat_lt
    have e1 : (m == m') = decide (num m = num m') := by
      by_cases e : m = m'
      · subst e; simp
      · have : ¬ num m = num m' := fun e' => e (num_inj m m' (by omega) e')
        simp [e, this]
    rw [e1, Bool.eq_iff_iff]
    simp [UInt8.lt_iff_toNat_lt]
    omega

theorem less_be (n m c : Nat) : Op.bytesLess (bs (be n c)).toList (bs (be m c)).toList = decide (n % 256 ^ c < m % 256 ^ c) := by
  rw [bs_toList, bs_toList, less_num c _ _ (be_length c n) (be_length c m), num_be, num_be]
theorem eq_be (n m c : Nat) : ((bs (be n c)).toList == (bs (be m c)).toList) = (((n % 256 ^ c : Nat) : Int) == ((m % 256 ^ c : Nat) : Int)) := by
  rw [bs_toList, bs_toList, Bool.eq_iff_iff, beq_iff_eq, beq_iff_eq]
  constructor
  · intro h
    rw [← num_be c n, ← num_be c m, h]
  · intro h
    exact num_inj _ _ (by simp [be_length]) (by rw [num_be, num_be]; omega)
theorem numOf_be (n c : Nat) (hc : c ≤ 8) : num ((bs (be n c)).data.toList.drop ((bs (be n c)).size - 8)) = n % 256 ^ c := by
  have e : (bs (be n c)).size = c := by simp [bs, ByteArray.size, be_length]
  rw [e, show c - 8 = 0 by omega]
  simp [bs, num_be]

theorem and_mask (n c : Nat) (hn : n < 18446744073709551616) (hc : c < 8) : bits .and .u64 (n : Int) (IntKind.u64.wrap (IntKind.u64.wrap (2 ^ (8 * c)) - 1)) = ((n % 256 ^ c : Nat) : Int) := by
  have e256 : (256 : Nat) ^ c = 2 ^ (8 * c) := by rw [Nat.pow_mul]
  have hle : (2 : Nat) ^ (8 * c) ≤ 2 ^ 56 := Nat.pow_le_pow_right (by decide) (by omega)
  have hpos : 0 < (2 : Nat) ^ (8 * c) := Nat.pow_pos (by decide)
  have ei : ((2 : Int) ^ (8 * c)) = ((2 ^ (8 * c) : Nat) : Int) := by simp
  have e1 : IntKind.u64.wrap (IntKind.u64.wrap (2 ^ (8 * c)) - 1) = ((2 ^ (8 * c) - 1 : Nat) : Int) := by
    rw [ei]
    generalize 2 ^ (8 * c) = M at hle hpos
    simp only [IntKind.wrap_u64]
    omega
  rw [e1, bits_and_u64_nat _ _ hn (by omega), Nat.and_two_pow_sub_one_eq_mod, e256]
theorem and_all (n : Nat) (hn : n < 18446744073709551616) : bits .and .u64 (n : Int) 18446744073709551615 = (n : Int) := by
  have h := bits_and_u64_nat n 18446744073709551615 hn (by decide)
  have e : n &&& 18446744073709551615 = n := by
    have := Nat.and_two_pow_sub_one_eq_mod n 64
    rw [Nat.mod_eq_of_lt hn] at this
    exact this
  rw [e] at h
  exact h
end Go.Proofs.YtbgpcmbaodjibaaGreat
namespace Go.Proofs.YtbgpcmbaodjibaaGreat
open Go.RowKit

def ok3 (r : List UInt8 × Nat × Nat) : Value := .tuple #[.string (bs r.1), .int .i64 (r.2.1 : Int), .int .i64 (r.2.2 : Int)]
theorem numOf_take (s : ByteArray) (h : 2 ≤ s.size) : numOf (s.extract 0 (0 + 2)) = num (s.data.toList.take 2) := by
  have e : (s.extract 0 (0 + 2)).data.toList = s.data.toList.take 2 := by simp [List.extract_eq_take_drop]
  have e2 : (s.extract 0 (0 + 2)).size = 2 := by rw [size_list, e, List.length_take, ← size_list]; omega
  unfold numOf
  rw [e, e2]
  rfl
theorem rb_short (s : ByteArray) (w : World) (h : s.size < 2) :
    Calls Tryz.prog 157 #[.string s] w fun e w' => e = .returned (.tuple #[.string ⟨#[]⟩, .int .i64 0, .int .i64 3]) ∧ Below w.heap.size w w' := by
  have hm : s.size ≤ 9223372036854775807 := by omega
  go_enter Tryz.func157, Tryz.ntmps157
  go_wp2_with fail
  refine (st_new (Below.refl _ w) s).mono ?_
  rintro e w1 ⟨B, rfl, h1⟩
  go_wp2_with fail
  refine (st_mut h1 rfl (number_past 2 h1.2.2 (Nat.zero_le _) hm (by omega))).mono ?_
  rintro e w2 ⟨rfl, h2⟩
  go_wp2_with fail
  refine (st_same h2 rfl (take_err _ h2.2.2 (by decide))).mono ?_
  rintro e w3 ⟨rfl, h3⟩
  go_wp2_with fail
  refine (st_same h3 rfl (err_yes h3.2.2)).mono ?_
  rintro e w4 ⟨rfl, h4⟩
  go_wp2_with fail
  refine (st_same h4 rfl (err_yes h4.2.2)).mono ?_
  rintro e w5 ⟨rfl, h5⟩
  go_wp2_with fail
  go_ret3
  exact ⟨rfl, h5.1⟩
theorem rb_past (s : ByteArray) (w : World) (n : Nat) (hm : s.size ≤ 9223372036854775807) (h2 : 2 ≤ s.size) (hn : num (s.data.toList.take 2) = n) (h : s.size < 2 + n) :
    Calls Tryz.prog 157 #[.string s] w fun e w' => e = .returned (.tuple #[.string ⟨#[]⟩, .int .i64 0, .int .i64 3]) ∧ Below w.heap.size w w' := by
  have hlt := num2_lt s.data.toList
  rw [hn] at hlt
  have hN := numOf_take s h2
  rw [hn] at hN
  have hN := Lib.hid hN
  clear hn
  go_enter Tryz.func157, Tryz.ntmps157
  go_wp2_with fail
  refine (st_new (Below.refl _ w) s).mono ?_
  rintro e w1 ⟨B, rfl, h1⟩
  go_wp2_with fail
  refine (st_mut h1 rfl (number_ok 2 h1.2.2 (by omega) hm)).mono ?_
  rw [hN.out]
  rintro e w2 ⟨rfl, h2⟩
  go_wp2_with fail
  refine (st_mut h2 rfl (take_past _ h2.2.2 (by omega) hm (by omega))).mono ?_
  rintro e w3 ⟨rfl, h3⟩
  go_wp2_with fail
  refine (st_same h3 rfl (err_yes h3.2.2)).mono ?_
  rintro e w4 ⟨rfl, h4⟩
  go_wp2_with fail
  refine (st_same h4 rfl (err_yes h4.2.2)).mono ?_
  rintro e w5 ⟨rfl, h5⟩
  go_wp2_with fail
  go_ret3
  exact ⟨rfl, h5.1⟩
theorem rb_ok (s : ByteArray) (w : World) (n : Nat) (hm : s.size ≤ 9223372036854775807) (h2 : 2 ≤ s.size) (hn : num (s.data.toList.take 2) = n) (h : 2 + n ≤ s.size) :
    Calls Tryz.prog 157 #[.string s] w fun e w' => e = .returned (.tuple #[.string (s.extract (0 + 2) (0 + 2 + n)), .int .i64 ((0 + 2 + n : Nat) : Int), .int .i64 0]) ∧ Below w.heap.size w w' := by
  have hlt := num2_lt s.data.toList
  rw [hn] at hlt
  have hN := numOf_take s h2
  rw [hn] at hN
  have hN := Lib.hid hN
  clear hn
  go_enter Tryz.func157, Tryz.ntmps157
  go_wp2_with fail
  refine (st_new (Below.refl _ w) s).mono ?_
  rintro e w1 ⟨B, rfl, h1⟩
  go_wp2_with fail
  refine (st_mut h1 rfl (number_ok 2 h1.2.2 (by omega) hm)).mono ?_
  rw [hN.out]
  rintro e w2 ⟨rfl, h2⟩
  go_wp2_with fail
  refine (st_mut h2 rfl (take_ok n h2.2.2 (by omega) hm)).mono ?_
  rintro e w3 ⟨rfl, h3⟩
  go_wp2_with fail
  refine (st_same h3 rfl (err_yes h3.2.2)).mono ?_
  rintro e w4 ⟨rfl, h4⟩
  go_wp2_with fail
  refine (st_same h4 rfl (at_yes h4.2.2)).mono ?_
  rintro e w5 ⟨rfl, h5⟩
  go_wp2_with fail
  go_ret3
  exact ⟨rfl, h5.1⟩

theorem extract_bs (s : ByteArray) (n : Nat) : s.extract (0 + 2) (0 + 2 + n) = bs ((s.data.toList.drop 2).take n) := by
  apply ByteArray.ext
  apply Array.toList_inj.1
  simp [bs, List.extract_eq_take_drop]

theorem readbin_any (s : ByteArray) (w : World) (hm : s.size ≤ 9223372036854775807) :
    Calls Tryz.prog 157 #[.string s] w fun e w' => e = .returned (ok3 (rdB s.data.toList)) ∧ Below w.heap.size w w' := by
  unfold ok3 rdB
  rw [← size_list]
  by_cases h2 : 2 ≤ s.size
  · by_cases h : 2 + num (s.data.toList.take 2) ≤ s.size
    · rw [if_pos ⟨h2, h⟩]
      have := rb_ok s w _ hm h2 rfl h
      rw [extract_bs] at this
      exact this
    · rw [if_neg (fun e => h e.2)]
      exact rb_past s w _ hm h2 rfl (by omega)
  · rw [if_neg (fun e => h2 e.1)]
    exact rb_short s w (by omega)

theorem us_read_any (s : ByteArray) (w : World) (hm : s.size ≤ 9223372036854775807) :
    Calls Tryz.prog 156 #[.string s] w fun e w' => e = .returned (ok3 (rdT s.data.toList)) ∧ Below w.heap.size w w' := by
  have hr := readbin_any s w hm
  unfold rdT
  rcases rdB_cases s.data.toList with ⟨h0, h1, h2, h3, _⟩ | h0
  · rw [if_neg (by rw [h0]; decide)]
    obtain ⟨d, hd⟩ : ∃ d, (rdB s.data.toList).1 = d := ⟨_, rfl⟩
    obtain ⟨z, hz⟩ : ∃ z, (rdB s.data.toList).2.1 = z := ⟨_, rfl⟩
    have hrr : rdB s.data.toList = (d, z, 0) := by rw [← hd, ← hz, ← h0]
    rw [hrr] at hr ⊢
    rw [hd] at h1
    unfold ok3 at hr
    dsimp only at hr ⊢
    have hv := fun W => valid_any (bs d) W (by rw [size_list]; show d.length ≤ _; omega)
    have ev : (bs d).data.toList = d := rfl
    rw [ev] at hv
    obtain ⟨b, hb⟩ : ∃ b, validOf d = b := ⟨_, rfl⟩
    rw [hb] at hv ⊢
    have hr := Lib.hid hr
    have hv := Lib.hid hv
    clear h0 h1 h2 h3 hd hz hrr ev hb
    cases b with
    | true =>
      rw [if_pos rfl]
      unfold ok3
      go_enter Tryz.func156, Tryz.ntmps156
      go_wp2_with fail
      refine (hr.out).mono ?_
      rintro e w1 ⟨rfl, hb1⟩
      go_wp2_with fail
      refine (hv.out _).mono ?_
      rintro e w2 ⟨rfl, hb2⟩
      go_wp2_with fail
      go_ret3
      exact ⟨rfl, hb1.trans (hb2.mono hb1.size)⟩
    | false =>
      rw [if_neg (by decide)]
      unfold ok3
      go_enter Tryz.func156, Tryz.ntmps156
      go_wp2_with fail
      refine (hr.out).mono ?_
      rintro e w1 ⟨rfl, hb1⟩
      go_wp2_with fail
      refine (hv.out _).mono ?_
      rintro e w2 ⟨rfl, hb2⟩
      go_wp2_with fail
      go_ret3
      exact ⟨rfl, hb1.trans (hb2.mono hb1.size)⟩
  · rw [if_pos (by rw [h0]; decide)]
    rw [h0] at hr
    unfold ok3 at hr ⊢
    dsimp only at hr
    have hr := Lib.hid hr
    go_enter Tryz.func156, Tryz.ntmps156
    go_wp2_with fail
    refine (hr.out).mono ?_
    rintro e w1 ⟨rfl, hb1⟩
    go_wp2_with fail
    go_ret3
    exact ⟨rfl, hb1⟩
end Go.Proofs.YtbgpcmbaodjibaaGreat
