/-
  The walk of OctetBack. No condition.
-/
import Derived.Test.YtecjlpkikagecaaOctLive
namespace Go.Proofs.Ytecjlpkikagecaa
open Go.RowKit

theorem num_be (c : Nat) : ∀ n, num (be n c) = n % 256 ^ c := by
  induction c with
  | zero => intro n; simp [be, num, Nat.mod_one]
  | succ c ih =>
    intro n
    rw [be, num_snoc, ih, Nat.pow_succ, Nat.mul_comm (256 ^ c) 256, Nat.mod_mul, UInt8.toNat_ofNat']
    omega
theorem be_of_num (l : List UInt8) : be (num l) l.length = l := by
  have key : ∀ (k : Nat) (l : List UInt8), l.length = k → be (num l) k = l := by
    intro k
    induction k with
    | zero => intro l h; have : l = [] := List.eq_nil_of_length_eq_zero h; subst this; rfl
    | succ k ih =>
      intro l h
      rcases List.eq_nil_or_concat l with rfl | ⟨l', b, rfl⟩
      · simp at h
      · simp at h
        have hb := b.toNat_lt
        rw [List.concat_eq_append, num_snoc, be]
        have e : (num l' * 256 + b.toNat) / 256 = num l' := by omega
        rw [e, ih l' h]
        congr 2
        apply UInt8.toNat_inj.1
        rw [UInt8.toNat_ofNat']
        omega
  exact key _ l rfl

def RetOf (v : Value) (w : World) (e : Ending) (w' : World) : Prop := e = .returned v ∧ Below w.heap.size w w'
def RetSame (v : Value) (w : World) (e : Ending) (w' : World) : Prop := e = .returned v ∧ w = w'

set_option maxHeartbeats 1000000 in
theorem back_lo (A B : ByteArray) (n m c X Y N : Nat) (size mask : Int) (s : ByteArray) (w : World) (hs : size % 9 = c) (hc : c < 8) (hmask : IntKind.u64.wrap (IntKind.u64.wrap (2 ^ (8 * c)) - 1) = mask)
    (hA : A.size = c) (ha : bits .and .u64 n mask = X) (hb : bits .and .u64 m mask = Y)
    (put1 : ∀ w, Calls Try.prog 17 #[.int .u64 n, .int .i64 c] w (RetOf (.string A) w))
    (put2 : ∀ w, Calls Try.prog 17 #[.int .u64 m, .int .i64 c] w (RetOf (.string B) w))
    (get1 : ∀ w, Calls Try.prog 18 #[.string A] w (RetSame (.int .u64 X) w))
    (hlt : Op.bytesLess A.toList B.toList = decide (X < Y)) (heq : (A.toList == B.toList) = ((X : Int) == (Y : Int)))
    (get3 : ∀ w, Calls Try.prog 18 #[.string s] w (RetSame (.int .u64 N) w))
    (put3 : s.size ≤ 8 → ∀ w, Calls Try.prog 17 #[.int .u64 N, .int .i64 s.size] w (RetOf (.string s) w))
    (hsz : s.size ≤ 9223372036854775807) :
    Calls Try.prog 5 #[.int .u64 n, .int .u64 m, .int .i64 size, .string s] w fun e w' => e = .returned (.bool true) ∧ Below w.heap.size w w' := by
  have HS := Lib.hid hs
  have HM := Lib.hid hmask
  have P1 := Lib.hid put1
  have P2 := Lib.hid put2
  have G1 := Lib.hid get1
  have G3 := Lib.hid get3
  have P3 := Lib.hid put3
  have hA1 : A.size ≤ c := by omega
  have hA2 : c ≤ A.size := by omega
  clear hs hmask put1 put2 put3 get1 get3 hA
  go_enter Try.func5, Try.ntmps5
  go_wp2_with fail
  refine (lives_any _).mono ?_
  rintro e w1 ⟨rfl, hb1⟩
  go_wp2_with fail
  refine (pick_any _ 9 _ (by decide) (by decide)).mono ?_
  rintro e w2 ⟨rfl, rfl⟩
  rw [HS.out]
  go_wp2_with fail
  rw [HM.out]
  refine (P1.out _).mono ?_
  rintro e w2 ⟨rfl, hb2⟩
  go_wp2_with fail
  refine (P2.out _).mono ?_
  rintro e w3 ⟨rfl, hb3⟩
  go_wp2_with fail
  refine (G1.out _).mono ?_
  rintro e w4 ⟨rfl, rfl⟩
  go_wp2_with fail
  · refine (G3.out _).mono ?_
    rintro e w4 ⟨rfl, rfl⟩
    go_wp2_with fail
    refine (P3.out (by omega) _).mono ?_
    rintro e w4 ⟨rfl, hb4⟩
    go_wp2_with fail
    go_ret
    exact ⟨rfl, ((hb1.trans (hb2.mono hb1.size)).trans (hb3.mono (Nat.le_trans hb1.size hb2.size))).trans (hb4.mono (Nat.le_trans (Nat.le_trans hb1.size hb2.size) hb3.size))⟩
  · go_ret
    exact ⟨rfl, (hb1.trans (hb2.mono hb1.size)).trans (hb3.mono (Nat.le_trans hb1.size hb2.size))⟩
set_option maxHeartbeats 1000000 in
theorem back_hi (A B : ByteArray) (n m X Y N : Nat) (size : Int) (s : ByteArray) (w : World) (hs : size % 9 = 8) 
    (hA : A.size = 8) (ha : bits .and .u64 n 18446744073709551615 = X) (hb : bits .and .u64 m 18446744073709551615 = Y)
    (put1 : ∀ w, Calls Try.prog 17 #[.int .u64 n, .int .i64 8] w (RetOf (.string A) w))
    (put2 : ∀ w, Calls Try.prog 17 #[.int .u64 m, .int .i64 8] w (RetOf (.string B) w))
    (get1 : ∀ w, Calls Try.prog 18 #[.string A] w (RetSame (.int .u64 X) w))
    (hlt : Op.bytesLess A.toList B.toList = decide (X < Y)) (heq : (A.toList == B.toList) = ((X : Int) == (Y : Int)))
    (get3 : ∀ w, Calls Try.prog 18 #[.string s] w (RetSame (.int .u64 N) w))
    (put3 : s.size ≤ 8 → ∀ w, Calls Try.prog 17 #[.int .u64 N, .int .i64 s.size] w (RetOf (.string s) w))
    (hsz : s.size ≤ 9223372036854775807) :
    Calls Try.prog 5 #[.int .u64 n, .int .u64 m, .int .i64 size, .string s] w fun e w' => e = .returned (.bool true) ∧ Below w.heap.size w w' := by
  have HS := Lib.hid hs
  have P1 := Lib.hid put1
  have P2 := Lib.hid put2
  have G1 := Lib.hid get1
  have G3 := Lib.hid get3
  have P3 := Lib.hid put3
  have hA1 : A.size ≤ 8 := by omega
  have hA2 : 8 ≤ A.size := by omega
  clear hs put1 put2 put3 get1 get3 hA
  go_enter Try.func5, Try.ntmps5
  go_wp2_with fail
  refine (lives_any _).mono ?_
  rintro e w1 ⟨rfl, hb1⟩
  go_wp2_with fail
  refine (pick_any _ 9 _ (by decide) (by decide)).mono ?_
  rintro e w2 ⟨rfl, rfl⟩
  rw [HS.out]
  go_wp2_with fail
  refine (P1.out _).mono ?_
  rintro e w2 ⟨rfl, hb2⟩
  go_wp2_with fail
  refine (P2.out _).mono ?_
  rintro e w3 ⟨rfl, hb3⟩
  go_wp2_with fail
  refine (G1.out _).mono ?_
  rintro e w4 ⟨rfl, rfl⟩
  go_wp2_with fail
  · refine (G3.out _).mono ?_
    rintro e w4 ⟨rfl, rfl⟩
    go_wp2_with fail
    refine (P3.out (by omega) _).mono ?_
    rintro e w4 ⟨rfl, hb4⟩
    go_wp2_with fail
    go_ret
    exact ⟨rfl, ((hb1.trans (hb2.mono hb1.size)).trans (hb3.mono (Nat.le_trans hb1.size hb2.size))).trans (hb4.mono (Nat.le_trans (Nat.le_trans hb1.size hb2.size) hb3.size))⟩
  · go_ret
    exact ⟨rfl, (hb1.trans (hb2.mono hb1.size)).trans (hb3.mono (Nat.le_trans hb1.size hb2.size))⟩
end Go.Proofs.Ytecjlpkikagecaa
