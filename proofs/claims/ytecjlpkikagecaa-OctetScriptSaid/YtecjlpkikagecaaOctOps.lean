/-
  What each call of a cursor, and of the reference's, does, in one form. No condition but the length of its string.
-/
import Derived.Test.YtecjlpkikagecaaOctRefGet
namespace Go.Proofs.Ytecjlpkikagecaa
open Go.RowKit

def fits (s : ByteArray) (i : Nat) (e z : Int) : Bool := e == 0 && (decide (0 ≤ z) && decide (z ≤ ((s.size - i : Nat) : Int)))
/-- What is taken, where the cursor then is, its error. -/
def tk (s : ByteArray) (i : Nat) (e z : Int) : ByteArray := bif fits s i e z then s.extract i (i + z.toNat) else ⟨#[]⟩
def ti (s : ByteArray) (i : Nat) (e z : Int) : Nat := bif fits s i e z then i + z.toNat else i
def te (s : ByteArray) (i : Nat) (e z : Int) : Int := bif (e == 0 && !fits s i e z) then 3 else e
def fe (e f : Int) : Int := bif e == 0 then f else e

theorem fits_cases (s : ByteArray) (i : Nat) (e z : Int) (hi : i ≤ s.size) :
    ((e == 0) = false ∧ tk s i e z = ⟨#[]⟩ ∧ ti s i e z = i ∧ te s i e z = e) ∨
    (e = 0 ∧ z < 0 ∧ tk s i e z = ⟨#[]⟩ ∧ ti s i e z = i ∧ te s i e z = 3) ∨
    (e = 0 ∧ ((s.size - i : Nat) : Int) < z ∧ tk s i e z = ⟨#[]⟩ ∧ ti s i e z = i ∧ te s i e z = 3) ∨
    (∃ m : Nat, e = 0 ∧ z = m ∧ i + m ≤ s.size ∧ tk s i e z = s.extract i (i + m) ∧ ti s i e z = i + m ∧ te s i e z = 0) := by
  by_cases he : e = 0
  · subst he
    by_cases h0 : z < 0
    · have hf : fits s i 0 z = false := by simp [fits]; omega
      exact .inr (.inl ⟨rfl, h0, by simp [tk, hf], by simp [ti, hf], by simp [te, hf]⟩)
    by_cases h1 : ((s.size - i : Nat) : Int) < z
    · have hf : fits s i 0 z = false := by simp [fits]; omega
      exact .inr (.inr (.inl ⟨rfl, h1, by simp [tk, hf], by simp [ti, hf], by simp [te, hf]⟩))
    · obtain ⟨m, rfl⟩ := Int.eq_ofNat_of_zero_le (show 0 ≤ z by omega)
      have hf : fits s i 0 (m : Int) = true := by simp [fits]; omega
      exact .inr (.inr (.inr ⟨m, rfl, rfl, by omega, by simp [tk, hf], by simp [ti, hf], by simp [te, hf]⟩))
  · have hb : (e == 0) = false := by simpa using he
    have hf : fits s i e z = false := by simp [fits, hb]
    exact .inl ⟨hb, by simp [tk, hf], by simp [ti, hf], by simp [te, hf, hb]⟩
theorem ti_le (s : ByteArray) (i : Nat) (e z : Int) (hi : i ≤ s.size) : ti s i e z ≤ s.size := by
  rcases fits_cases s i e z hi with ⟨_, _, h, _⟩ | ⟨_, _, _, h, _⟩ | ⟨_, _, _, h, _⟩ | ⟨m, _, _, hm, _, h, _⟩ <;> omega

theorem take_all {w : World} {b : Nat} {s : ByteArray} {i : Nat} {e : Int} (z : Int) (hc : Cur w b s i e) (hi : i ≤ s.size) (hm : s.size ≤ 9223372036854775807) :
    Calls Try.prog 9 #[.pointer (some ⟨b, 0, none⟩), .int .i64 z] w fun e' w' => e' = .returned (.string (tk s i e z)) ∧ Cur w' b s (ti s i e z) (te s i e z) ∧ w.grownBy w' (some b) := by
  rcases fits_cases s i e z hi with ⟨h, h1, h2, h3⟩ | ⟨rfl, h, h1, h2, h3⟩ | ⟨rfl, h, h1, h2, h3⟩ | ⟨m, rfl, rfl, h, h1, h2, h3⟩ <;> rw [h1, h2, h3]
  · exact (take_err z hc h).mono fun _ _ ⟨a, c⟩ => ⟨a, c ▸ hc, c ▸ World.grownBy.refl w _⟩
  · exact take_neg z hc h
  · exact take_past z hc hi hm h
  · exact take_ok m hc h hm
theorem peek_all {w : World} {b : Nat} {s : ByteArray} {i : Nat} {e : Int} (z : Int) (hc : Cur w b s i e) (hi : i ≤ s.size) (hm : s.size ≤ 9223372036854775807) :
    Calls Try.prog 11 #[.pointer (some ⟨b, 0, none⟩), .int .i64 z] w fun e' w' => e' = .returned (.string (tk s i e z)) ∧ ∃ k, w' = w.drewN k := by
  rcases fits_cases s i e z hi with ⟨h, h1, h2, h3⟩ | ⟨rfl, h, h1, h2, h3⟩ | ⟨rfl, h, h1, h2, h3⟩ | ⟨m, rfl, rfl, h, h1, h2, h3⟩ <;> rw [h1]
  · exact peek_err z hc h
  · exact peek_neg z hc h
  · exact peek_past z hc hi hm h
  · exact peek_ok m hc h hm
theorem number_all {w : World} {b : Nat} {s : ByteArray} {i : Nat} {e : Int} (z : Int) (hc : Cur w b s i e) (hi : i ≤ s.size) (hm : s.size ≤ 9223372036854775807) :
    Calls Try.prog 10 #[.pointer (some ⟨b, 0, none⟩), .int .i64 z] w fun e' w' => e' = .returned (.int .u64 (numOf (tk s i e z))) ∧ Cur w' b s (ti s i e z) (te s i e z) ∧ w.grownBy w' (some b) := by
  have hz : (tk s i e z).size ≤ 9223372036854775807 := by
    rcases fits_cases s i e z hi with ⟨_, h, _⟩ | ⟨_, _, h, _⟩ | ⟨_, _, h, _⟩ | ⟨m, _, _, _, h, _⟩ <;> rw [h]
    · decide
    · decide
    · decide
    · simp; omega
  go_enter Try.func10, Try.ntmps10
  go_wp2_with (first
    | (go_at_call 9; refine (take_all z hc hi hm).mono ?_; rintro e' w' ⟨rfl, hc', hg⟩)
    | (go_at_call 18; refine (get_of _ _ hz).mono ?_; rintro e' w' ⟨rfl, rfl⟩))
  go_ret
  exact ⟨rfl, hc', hg⟩
theorem fail_all {w : World} {b : Nat} {s : ByteArray} {i : Nat} {e : Int} (f : Int) (hc : Cur w b s i e) :
    Calls Try.prog 13 #[.pointer (some ⟨b, 0, none⟩), .int .i64 f] w fun e' w' => e' = .returned (.tuple #[]) ∧ Cur w' b s i (fe e f) ∧ w.grownBy w' (some b) := by
  by_cases he : e = 0
  · subst he
    exact fail_yes f hc
  · have hb : (e == 0) = false := by simpa using he
    have h1 : fe e f = e := by simp [fe, hb]
    rw [h1]
    exact (fail_no f hc hb).mono fun _ _ ⟨a, c⟩ => ⟨a, c ▸ hc, c ▸ World.grownBy.refl w _⟩

theorem ref_take_all {w : World} {b : Nat} {s : ByteArray} {i : Nat} {e : Int} (z : Int) (hc : Ref w b s i e) (hi : i ≤ s.size) (hm : s.size ≤ 9223372036854775807) :
    Calls Try.prog 21 #[.pointer (some ⟨b, 0, none⟩), .int .i64 z] w fun e' w' => e' = .returned (.string (tk s i e z)) ∧ Ref w' b s (ti s i e z) (te s i e z) ∧ w.grownBy w' (some b) := by
  rcases fits_cases s i e z hi with ⟨h, h1, h2, h3⟩ | ⟨rfl, h, h1, h2, h3⟩ | ⟨rfl, h, h1, h2, h3⟩ | ⟨m, rfl, rfl, h, h1, h2, h3⟩ <;> rw [h1, h2, h3]
  · exact ref_take_err z hc h hi hm
  · exact ref_take_neg z hc h hi hm
  · exact ref_take_past z hc hi hm h
  · exact ref_take_ok m hc h hm
theorem ref_peek_all {w : World} {b : Nat} {s : ByteArray} {i : Nat} {e : Int} (z : Int) (hc : Ref w b s i e) (hi : i ≤ s.size) (hm : s.size ≤ 9223372036854775807) :
    Calls Try.prog 23 #[.pointer (some ⟨b, 0, none⟩), .int .i64 z] w fun e' w' => e' = .returned (.string (tk s i e z)) ∧ ∃ k, w' = w.drewN k := by
  rcases fits_cases s i e z hi with ⟨h, h1, h2, h3⟩ | ⟨rfl, h, h1, h2, h3⟩ | ⟨rfl, h, h1, h2, h3⟩ | ⟨m, rfl, rfl, h, h1, h2, h3⟩ <;> rw [h1]
  · exact ref_peek_err z hc h
  · exact ref_peek_neg z hc h
  · exact ref_peek_past z hc hi hm h
  · exact ref_peek_ok m hc h hm
theorem ref_number_all {w : World} {b : Nat} {s : ByteArray} {i : Nat} {e : Int} (z : Int) (hc : Ref w b s i e) (hi : i ≤ s.size) (hm : s.size ≤ 9223372036854775807) :
    Calls Try.prog 22 #[.pointer (some ⟨b, 0, none⟩), .int .i64 z] w fun e' w' => e' = .returned (.int .u64 (numOf (tk s i e z))) ∧ Ref w' b s (ti s i e z) (te s i e z) ∧ w.grownBy w' (some b) := by
  have hz : (tk s i e z).size ≤ 9223372036854775807 := by
    rcases fits_cases s i e z hi with ⟨_, h, _⟩ | ⟨_, _, h, _⟩ | ⟨_, _, h, _⟩ | ⟨m, _, _, _, h, _⟩ <;> rw [h]
    · decide
    · decide
    · decide
    · simp; omega
  go_enter Try.func22, Try.ntmps22
  go_wp2_with (first
    | (go_at_call 21; refine (ref_take_all z hc hi hm).mono ?_; rintro e' w' ⟨rfl, hc', hg⟩)
    | (go_at_call 28; refine (ref_get _ _ hz).mono ?_; rintro e' w' ⟨rfl, rfl⟩))
  go_ret
  exact ⟨rfl, hc', hg⟩
theorem ref_fail_all {w : World} {b : Nat} {s : ByteArray} {i : Nat} {e : Int} (f : Int) (hc : Ref w b s i e) :
    Calls Try.prog 24 #[.pointer (some ⟨b, 0, none⟩), .int .i64 f] w fun e' w' => e' = .returned (.tuple #[]) ∧ Ref w' b s i (fe e f) ∧ w.grownBy w' (some b) := by
  by_cases he : e = 0
  · subst he
    exact ref_fail_yes f hc
  · have hb : (e == 0) = false := by simpa using he
    have h1 : fe e f = e := by simp [fe, hb]
    rw [h1]
    exact (ref_fail_no f hc hb).mono fun _ _ ⟨a, c⟩ => ⟨a, c ▸ hc, c ▸ World.grownBy.refl w _⟩
end Go.Proofs.Ytecjlpkikagecaa
