/-
  The contracts of amqprim.signed, number and says: numbers of so many bytes, in two's complement where their kind is signed. Condition: the bytes are 0, 1, 2, 4 or 8, and of a signed kind not 0.
-/
import Derived.Test.YtjbgnlnchchgcaaDoorOctGet
import Derived.Test.YtjbgnlnchchgcaaDoorOctPut
import Derived.Test.YtjbgnlnchchgcaaDoorAmPlain
import Derived.Test.YtjbgnlnchchgcaaDoorKit
namespace Go.Proofs.YtjbgnlnchchgcaaDoor
open Go.RowKit

/-- Is a kind's number signed? -/
def sgnK (k : Int) : Bool := k == 7 || k == 8 || k == 9 || k == 10 || k == 17
theorem sgn_cases (k : Int) : ((k = 7 ∨ k = 8 ∨ k = 9 ∨ k = 10 ∨ k = 17) ∧ sgnK k = true) ∨ (((k == 7) = false ∧ (k == 8) = false ∧ (k == 9) = false ∧ (k == 10) = false ∧ (k == 17) = false) ∧ sgnK k = false) := by
  unfold sgnK
  by_cases h : k = 7 ∨ k = 8 ∨ k = 9 ∨ k = 10 ∨ k = 17
  · exact .inl ⟨h, by rcases h with rfl | rfl | rfl | rfl | rfl <;> rfl⟩
  · refine .inr ⟨⟨?_, ?_, ?_, ?_, ?_⟩, ?_⟩ <;> simp <;> omega
set_option maxHeartbeats 1000000 in
theorem sgn_any (k : Int) (w : World) : Calls Tryd.prog 79 #[.int .i64 k] w fun e W => e = .returned (.bool (sgnK k)) ∧ w = W := by
  rcases sgn_cases k with ⟨h, e⟩ | ⟨⟨h1, h2, h3, h4, h5⟩, e⟩
  · rw [e]
    rcases h with rfl | rfl | rfl | rfl | rfl
    all_goals
      go_in
      go_wp2_with fail
      go_ret
      exact ⟨rfl, rfl⟩
  · rw [e]
    clear e
    go_in
    go_wp2_with fail
    go_ret
    exact ⟨rfl, rfl⟩
/-- The number for which a number of w bytes stands in a signed kind. -/
def extW (w n : Nat) : Nat := if 2 ^ (8 * w - 1) ≤ n then n + 18446744073709551616 - 2 ^ (8 * w) else n
def numK (k : Int) (l : List UInt8) : Nat := if sgnK k = true then extW l.length (num l) else num l
theorem wrap_u (z : Int) : IntKind.u64.wrap z = z % 18446744073709551616 := rfl
theorem ext_1 {n : Nat} (h : n < 256 ^ 1) : IntKind.u64.wrap (wrap64 ((n : Int) * 72057594037927936) / 72057594037927936) = ((extW 1 n : Nat) : Int) := by
  rw [wrap_u]; unfold wrap64 extW; split <;> omega
theorem ext_2 {n : Nat} (h : n < 256 ^ 2) : IntKind.u64.wrap (wrap64 ((n : Int) * 281474976710656) / 281474976710656) = ((extW 2 n : Nat) : Int) := by
  rw [wrap_u]; unfold wrap64 extW; split <;> omega
theorem ext_4 {n : Nat} (h : n < 256 ^ 4) : IntKind.u64.wrap (wrap64 ((n : Int) * 4294967296) / 4294967296) = ((extW 4 n : Nat) : Int) := by
  rw [wrap_u]; unfold wrap64 extW; split <;> omega
theorem ext_8 {n : Nat} (h : n < 256 ^ 8) : IntKind.u64.wrap (wrap64 (n : Int)) = ((extW 8 n : Nat) : Int) := by
  rw [wrap_u]; unfold wrap64 extW; split <;> omega
set_option maxHeartbeats 2000000 in
theorem numk_any (k : Int) (s : ByteArray) (w : World) (hs : s.size = 0 ∨ s.size = 1 ∨ s.size = 2 ∨ s.size = 4 ∨ s.size = 8) (hk : sgnK k = true → s.size ≠ 0) :
    Calls Tryd.prog 64 #[.int .i64 k, .string s] w fun e W => e = .returned (.int .u64 (numK k s.data.toList : Nat)) ∧ w = W := by
  have G := get_any s w (by omega)
  rw [show s.size - 8 = 0 by omega, List.drop_zero] at G
  have SG := Lib.hid (fun W => sgn_any k W)
  unfold numK
  cases hc : sgnK k
  · rw [hc] at SG
    rw [if_neg (by simp)]
    generalize num s.data.toList = n at *
    clear hk hc
    have G := Lib.hid G
    go_in
    go_wp2_with (first
      | (go_at_call 78; refine (G.out).mono ?_; rintro e W ⟨rfl, rfl⟩)
      | (go_at_call 79; refine (SG.out _).mono ?_; rintro e W ⟨rfl, rfl⟩))
    go_ret
    exact ⟨rfl, rfl⟩
  · rw [hc] at SG
    rw [if_pos rfl]
    have hl : s.data.toList.length = s.size := by simp
    have hb := num_lt s.data.toList
    rw [hl] at hb ⊢
    have h0 := hk hc
    generalize num s.data.toList = n at *
    clear hk hc hl
    have G := Lib.hid G
    rcases hs with h | h | h | h | h
    · exact absurd h h0
    · rw [h] at hb ⊢
      clear h0
      have X := Lib.hid (ext_1 hb)
      go_in
      go_wp2_with (first
        | (go_at_call 78; refine (G.out).mono ?_; rintro e W ⟨rfl, rfl⟩)
        | (go_at_call 79; refine (SG.out _).mono ?_; rintro e W ⟨rfl, rfl⟩))
      go_ret
      exact ⟨congrArg Ending.returned (congrArg (Value.int IntKind.u64) X.out), rfl⟩
    · rw [h] at hb ⊢
      clear h0
      have X := Lib.hid (ext_2 hb)
      go_in
      go_wp2_with (first
        | (go_at_call 78; refine (G.out).mono ?_; rintro e W ⟨rfl, rfl⟩)
        | (go_at_call 79; refine (SG.out _).mono ?_; rintro e W ⟨rfl, rfl⟩))
      go_ret
      exact ⟨congrArg Ending.returned (congrArg (Value.int IntKind.u64) X.out), rfl⟩
    · rw [h] at hb ⊢
      clear h0
      have X := Lib.hid (ext_4 hb)
      go_in
      go_wp2_with (first
        | (go_at_call 78; refine (G.out).mono ?_; rintro e W ⟨rfl, rfl⟩)
        | (go_at_call 79; refine (SG.out _).mono ?_; rintro e W ⟨rfl, rfl⟩))
      go_ret
      exact ⟨congrArg Ending.returned (congrArg (Value.int IntKind.u64) X.out), rfl⟩
    · rw [h] at hb ⊢
      clear h0
      have X := Lib.hid (ext_8 hb)
      go_in
      go_wp2_with (first
        | (go_at_call 78; refine (G.out).mono ?_; rintro e W ⟨rfl, rfl⟩)
        | (go_at_call 79; refine (SG.out _).mono ?_; rintro e W ⟨rfl, rfl⟩))
      go_ret
      exact ⟨congrArg Ending.returned (congrArg (Value.int IntKind.u64) X.out), rfl⟩
/-- Can w bytes say n? -/
def saysP (k : Int) (n w : Nat) : Bool := if sgnK k = true then signedA n (8 * w) else decide (n < 256 ^ w)
theorem says_eq (k : Int) (n w : Nat) (hn : n < 18446744073709551616) (hw : w = 0 ∨ w = 1 ∨ w = 2 ∨ w = 4 ∨ w = 8) (hk : sgnK k = true → w ≠ 0) :
    (((numK k (be n w) : Nat) : Int) == (n : Int)) = saysP k n w := by
  have e : (((numK k (be n w) : Nat) : Int) == (n : Int)) = decide (numK k (be n w) = n) := by rw [Bool.eq_iff_iff]; simp; omega
  rw [e]
  unfold numK saysP signedA
  rw [num_be, be_length]
  cases hc : sgnK k
  · simp only [Bool.false_eq_true, if_false]
    rw [decide_eq_decide]
    rcases hw with rfl | rfl | rfl | rfl | rfl
    all_goals omega
  · simp only [if_true]
    have h0 := hk hc
    rw [← Bool.decide_or, decide_eq_decide]
    unfold extW
    rcases hw with rfl | rfl | rfl | rfl | rfl
    · exact absurd rfl h0
    all_goals
      split <;> omega
theorem says_any (k : Int) (n : Nat) (z : Nat) (w : World) (hn : n < 18446744073709551616) (hw : z = 0 ∨ z = 1 ∨ z = 2 ∨ z = 4 ∨ z = 8) (hk : sgnK k = true → z ≠ 0) :
    Calls Tryd.prog 57 #[.int .i64 k, .int .u64 (n : Nat), .int .i64 (z : Nat)] w fun e W => e = .returned (.bool (saysP k n z)) ∧ Below w.heap.size w W := by
  have P := put_any n z w hn
  rw [show (min (z : Int) 16).toNat = z by omega] at P
  have hl : (bs (be n z)).size = z := by simp [bs, ByteArray.size, be_length]
  have N := fun W => numk_any k (bs (be n z)) W (by omega) (by rw [hl]; exact hk)
  rw [show (bs (be n z)).data.toList = be n z from rfl] at N
  have E := Lib.hid (says_eq k n z hn hw hk)
  generalize numK k (be n z) = x at *
  have P := Lib.hid P
  have N := Lib.hid N
  clear hn hw hk hl
  go_in
  go_wp2_with (first
    | (go_at_call 72; refine (P.out).mono ?_; rintro e W ⟨rfl, hb⟩)
    | (go_at_call 64; refine (N.out _).mono ?_; rintro e W' ⟨rfl, rfl⟩))
  go_ret
  rw [← E.out]
  exact ⟨rfl, hb⟩
end Go.Proofs.YtjbgnlnchchgcaaDoor
