/-
  The contracts of amqprim.ascii, textOf and numberOf. Condition: the text is no longer than an int says, the number is what its type holds.
-/
import Derived.Deep.LoopGhost
import Derived.Test.YtjbgnlnchchgcaaDoorAmUni
namespace Go.Proofs.YtjbgnlnchchgcaaDoor
open Go.RowKit

def textP (k : Int) (l : List UInt8) : Bool := if k = 20 then goodU l else if k = 21 then asciiA l else true
def numP (k : Int) (n : Nat) : Bool := if k = 2 then decide (n ≤ 1) else if k = 16 then charA n else true
theorem ascii_step {s : ByteArray} {i : Nat} (h : i < s.size) (ha : asciiA (s.data.toList.take i) = true) (hb : (s[i]).toNat < 128) : asciiA (s.data.toList.take (i + 1)) = true := by
  rw [take_bytes s i h]
  unfold asciiA at *
  rw [List.all_append, ha, Bool.true_and]
  simp only [List.all_cons, List.all_nil, Bool.and_true]
  exact decide_eq_true hb
theorem ascii_false {s : ByteArray} {i : Nat} (h : i < s.size) (hb : ¬ (s[i]).toNat < 128) : asciiA s.data.toList = false := by
  rw [← List.take_append_drop (i + 1) s.data.toList, take_bytes s i h]
  unfold asciiA
  rw [List.all_append, List.all_append]
  simp only [List.all_cons, List.all_nil, Bool.and_true]
  rw [decide_eq_false hb, Bool.and_false, Bool.false_and]
set_option maxRecDepth 100000 in
set_option maxHeartbeats 1000000 in
theorem asc_any (s : ByteArray) (w : World) (hs : s.size ≤ 9223372036854775807) :
    Calls Tryd.prog 60 #[.string s] w fun e W => e = .returned (.bool (asciiA s.data.toList)) ∧ w = W := by
  have HS := Lib.hid hs
  have hl : s.data.toList.length = s.size := by simp
  go_in
  go_wp2_with fail
  go_loopg [6] s.size (fun gk s6 wr => ∃ i : Nat, i ≤ s.size ∧ gk = s.size - i ∧ s6 = .int .i64 (i : Nat) ∧ Hid (asciiA (s.data.toList.take i) = true) ∧ w = wr)
  case atStart => exact ⟨0, Nat.zero_le _, rfl, rfl, Lib.hid rfl, rfl⟩
  case round =>
    obtain ⟨i, hi, rfl, rfl, hA, rfl⟩ := hrel
    by_cases hlt : i < s.size
    · have HL := Lib.hid hlt
      by_cases h2 : (s[i]).toNat < 128
      · have HA := Lib.hid (ascii_step hlt hA.out h2)
        have h3 : ((s[i]).toNat : Int) < 128 := by omega
        clear hA
        go_wp2_with fail
        go_roundg (s.size - (i + 1))
        case measure => have := HL.out; omega
        case rel => exact ⟨i + 1, HL.out, rfl, by go_num, HA, rfl⟩
      · have HF := Lib.hid (ascii_false hlt h2)
        have h3 : ¬ ((s[i]).toNat : Int) < 128 := by omega
        clear hA
        go_wp2_with fail
        go_ret
        exact ⟨by rw [HF.out]; rfl, rfl⟩
    · obtain rfl : i = s.size := by omega
      have e : s.data.toList.take s.size = s.data.toList := List.take_of_length_le (Nat.le_of_eq hl)
      rw [e] at hA
      go_wp2_with fail
      go_ret
      exact ⟨by rw [hA.out]; rfl, rfl⟩
theorem bne_of {a b : Int} (h : a ≠ b) : (a == b) = false := by simpa using h
set_option maxHeartbeats 1000000 in
theorem textof_any (k : Int) (s : ByteArray) (w : World) (hs : s.size ≤ 9223372036854775807) :
    Calls Tryd.prog 35 #[.int .i64 k, .string s] w fun e W => e = .returned (.bool (textP k s.data.toList)) ∧ Below w.heap.size w W := by
  have U := Lib.hid (fun W => uni_any s W hs)
  have A := Lib.hid (fun W => asc_any s W hs)
  have R := Lib.hid (Below.refl w.heap.size w)
  unfold textP
  by_cases h1 : k = 20
  · subst h1
    rw [if_pos rfl]
    go_in
    go_wp2_with (go_at_call 59; refine (U.out _).mono ?_; rintro e W ⟨rfl, hb⟩)
    go_ret
    exact ⟨rfl, hb⟩
  · rw [if_neg h1]
    have e1 := bne_of h1
    by_cases h2 : k = 21
    · subst h2
      rw [if_pos rfl]
      go_in
      go_wp2_with (go_at_call 60; refine (A.out _).mono ?_; rintro e W ⟨rfl, rfl⟩)
      go_ret
      exact ⟨rfl, R.out⟩
    · rw [if_neg h2]
      have e2 := bne_of h2
      clear h1 h2
      go_in
      go_wp2_with fail
      go_ret
      exact ⟨rfl, R.out⟩
theorem rune_any (n : Nat) (w : World) (hn : n ≤ 1114111) : Calls Tryd.prog 58 #[.int .i32 (n : Nat)] w fun e W => e = .returned (.bool (charA n)) ∧ w = W := by
  unfold charA
  rw [decide_eq_true hn, Bool.true_and]
  have h0 : (0 : Int) ≤ (n : Int) := by omega
  by_cases h1 : n < 55296
  · have e1 : (n : Int) < 55296 := by omega
    rw [decide_eq_true h1, Bool.true_or]
    clear h1
    go_in
    go_wp2_with fail
    go_ret
    exact ⟨rfl, rfl⟩
  · have e1 : ¬ (n : Int) < 55296 := by omega
    rw [decide_eq_false h1, Bool.false_or]
    by_cases h2 : 57343 < n
    · have e2 : (57343 : Int) < (n : Int) := by omega
      have e3 : (n : Int) ≤ 1114111 := by omega
      rw [decide_eq_true h2]
      clear h1 h2
      go_in
      go_wp2_with fail
      go_ret
      exact ⟨rfl, rfl⟩
    · have e2 : ¬ (57343 : Int) < (n : Int) := by omega
      rw [decide_eq_false h2]
      clear h1 h2
      go_in
      go_wp2_with fail
      go_ret
      exact ⟨rfl, rfl⟩
set_option maxHeartbeats 1000000 in
theorem numof_any (k : Int) (n : Nat) (w : World) : Calls Tryd.prog 34 #[.int .i64 k, .int .u64 (n : Nat)] w fun e W => e = .returned (.bool (numP k n)) ∧ w = W := by
  unfold numP
  by_cases h1 : k = 2
  · subst h1
    rw [if_pos rfl]
    have E := Lib.hid (show decide ((n : Int) ≤ 1) = decide (n ≤ 1) by rw [decide_eq_decide]; omega)
    go_in
    go_wp2_with fail
    go_ret
    rw [← E.out]
    exact ⟨rfl, rfl⟩
  · rw [if_neg h1]
    have e1 := bne_of h1
    by_cases h2 : k = 16
    · subst h2
      rw [if_pos rfl]
      by_cases h3 : n ≤ 1114111
      · have R := Lib.hid (fun W => rune_any n W h3)
        have e3 : (n : Int) ≤ 1114111 := by omega
        generalize charA n = c at *
        go_in
        go_wp2_with (go_at_call 58; refine (R.out _).mono ?_; rintro e W ⟨rfl, rfl⟩)
        go_ret
        exact ⟨by simp, rfl⟩
      · have e3 : ¬ (n : Int) ≤ 1114111 := by omega
        have E : charA n = false := by unfold charA; rw [decide_eq_false h3, Bool.false_and]
        rw [E]
        clear h3 E
        go_in
        go_wp2_with fail
        go_ret
        exact ⟨by simp_all, rfl⟩
    · rw [if_neg h2]
      have e2 := bne_of h2
      clear h1 h2
      go_in
      go_wp2_with fail
      go_ret
      exact ⟨rfl, rfl⟩
end Go.Proofs.YtjbgnlnchchgcaaDoor
