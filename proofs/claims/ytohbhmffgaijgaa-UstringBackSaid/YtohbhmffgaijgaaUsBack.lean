/-
  The given statement UstringBack: whatever the inputs, the law returns true and the arguments read as before. No condition.
-/
import Derived.Test.YtohbhmffgaijgaaUsLive
import Derived.Test.YtohbhmffgaijgaaLawKit
namespace Go.Proofs.Ytohbhmffgaijgaa
open Go.ChangeShapes Go.WideShapes Go.ChangeAt Go.RowKit
open Go.ChangeMaps (open_string)

theorem rdB_enc (l r : List UInt8) (h : l.length ≤ 65535) : rdB (enc2 l ++ r) = (l, l.length + 2, 0) := by
  have h2 : (be l.length 2).length = 2 := be_length 2 _
  have e1 : (enc2 l ++ r).take 2 = be l.length 2 := by
    unfold enc2; rw [List.append_assoc, List.take_append_of_le_length (by omega), List.take_of_length_le (by omega)]
  have e2 : num ((enc2 l ++ r).take 2) = l.length := by rw [e1, num_be]; omega
  have e3 : (enc2 l ++ r).drop 2 = l ++ r := by
    unfold enc2; rw [List.append_assoc, List.drop_append_of_le_length (by omega), List.drop_of_length_le (by omega)]; rfl
  have e4 : (enc2 l ++ r).length = l.length + 2 + r.length := by rw [List.length_append, enc2_length]
  unfold rdB
  rw [e2, e3, if_pos ⟨by omega, by omega⟩, List.take_append_of_le_length (Nat.le_refl _), List.take_length, Nat.add_comm]
theorem rdT_enc (l r : List UInt8) (hv : validOf l = true) : rdT (enc2 l ++ r) = (l, l.length + 2, 0) := by
  have h := rdB_enc l r ((validOf_iff l).1 hv).1
  unfold rdT
  rw [h, if_neg (by simp), if_pos hv]

/-- What Read tells: an error, or what is valid, and is written as the same. -/
theorem rdT_cases (l : List UInt8) : (∃ e : Nat, e ≠ 0 ∧ e < 10 ∧ rdT l = ([], 0, e)) ∨ (∃ d z, rdT l = (d, z, 0) ∧ validOf d = true ∧ z ≤ l.length ∧ l.take z = enc2 d) := by
  unfold rdT
  rcases rdB_cases l with ⟨h0, h1, h2, h3, h4⟩ | h0
  · rw [if_neg (by rw [h0]; decide)]
    cases hv : validOf (rdB l).1 with
    | true => exact .inr ⟨(rdB l).1, (rdB l).2.1, by rw [if_pos rfl, ← h0], hv, h2, h4⟩
    | false => exact .inl ⟨6, by decide, by decide, by rw [if_neg (by decide)]⟩
  · exact .inl ⟨3, by decide, by decide, by rw [if_pos (by rw [h0]; decide)]⟩

theorem extract_take (s : ByteArray) (z : Nat) : s.extract 0 z = bs (s.data.toList.take z) := by
  apply ByteArray.ext
  apply Array.toList_inj.1
  simp [bs, List.extract_eq_take_drop]

/-- A string that is written: its bytes, what is read of them and what follows. -/
structure Written (s behind a : ByteArray) : Prop where
  size : (a.size : Int) = (s.size : Int) + 2
  sum : ¬ 9223372036854775807 < a.size + behind.size
theorem written (s behind : ByteArray) (hs : s.size ≤ 70000) (hb : behind.size ≤ 1000) : Written s behind (bs (enc2 s.data.toList)) := by
  have e : (bs (enc2 s.data.toList)).size = s.size + 2 := by rw [size_list]; show (enc2 s.data.toList).length = _; rw [enc2_length, ← size_list]
  exact ⟨by rw [e]; rfl, by rw [e]; omega⟩
abbrev R3 (f : FuncId) (s : ByteArray) (v : Value) : Prop := RowKit.Hid (∀ W, Calls Try.prog f #[.string s] W fun e w' => e = .returned v ∧ Below W.heap.size W w')
theorem read_back (s behind : ByteArray) (hs : s.size ≤ 70000) (hb : behind.size ≤ 1000) (hv : validOf s.data.toList = true) :
    R3 14 (bs (enc2 s.data.toList) ++ behind) (.tuple #[.string s, .int .i64 ((s.size : Int) + 2), .int .i64 0]) := Lib.hid fun W => by
  have hw := written s behind hs hb
  have h := read_any (bs (enc2 s.data.toList) ++ behind) W (by rw [ByteArray.size_append]; have := hw.sum; omega)
  rw [append_list, show (bs (enc2 s.data.toList)).data.toList = enc2 s.data.toList from rfl, rdT_enc _ _ hv] at h
  unfold ok3 at h
  rw [bs_of, ← size_list] at h
  exact h
theorem readbin_back (s behind : ByteArray) (hs : s.size ≤ 65535) (hb : behind.size ≤ 1000) :
    R3 15 (bs (enc2 s.data.toList) ++ behind) (.tuple #[.string s, .int .i64 ((s.size : Int) + 2), .int .i64 0]) := Lib.hid fun W => by
  have hw := written s behind (by omega) hb
  have h := readbin_any (bs (enc2 s.data.toList) ++ behind) W (by rw [ByteArray.size_append]; have := hw.sum; omega)
  rw [append_list, show (bs (enc2 s.data.toList)).data.toList = enc2 s.data.toList from rfl, rdB_enc _ _ (by rw [← size_list]; exact hs)] at h
  unfold ok3 at h
  rw [bs_of, ← size_list] at h
  exact h

set_option maxRecDepth 100000 in
theorem back_far_s (s behind b : ByteArray) (w : World) (ha : s.size ≤ 9223372036854775807) (hb : behind.size ≤ 9223372036854775807) (hc : b.size ≤ 9223372036854775807) (h1 : 70000 < s.size) :
    Calls Try.prog 5 #[.string s, .string behind, .string b] w fun e w' => e = .returned (.bool true) ∧ Below w.heap.size w w' := by
  go_enter Try.func5, Try.ntmps5
  go_wp2_with fail
  refine (lives3 _).mono ?_
  rintro e w1 ⟨rfl, q1⟩
  go_wp2_with fail
  go_ret
  exact ⟨rfl, q1⟩

set_option maxRecDepth 100000 in
theorem back_far_b (s behind b : ByteArray) (w : World) (ha : s.size ≤ 9223372036854775807) (hb : behind.size ≤ 9223372036854775807) (hc : b.size ≤ 9223372036854775807) (h1 : ¬ 70000 < s.size) (h2 : 1000 < behind.size) :
    Calls Try.prog 5 #[.string s, .string behind, .string b] w fun e w' => e = .returned (.bool true) ∧ Below w.heap.size w w' := by
  go_enter Try.func5, Try.ntmps5
  go_wp2_with fail
  refine (lives3 _).mono ?_
  rintro e w1 ⟨rfl, q1⟩
  go_wp2_with fail
  go_ret
  exact ⟨rfl, q1⟩

set_option maxRecDepth 100000 in
theorem back_far_c (s behind b : ByteArray) (w : World) (ha : s.size ≤ 9223372036854775807) (hb : behind.size ≤ 9223372036854775807) (hc : b.size ≤ 9223372036854775807) (h1 : ¬ 70000 < s.size) (h2 : ¬ 1000 < behind.size) (h3 : 70000 < b.size) :
    Calls Try.prog 5 #[.string s, .string behind, .string b] w fun e w' => e = .returned (.bool true) ∧ Below w.heap.size w w' := by
  go_enter Try.func5, Try.ntmps5
  go_wp2_with fail
  refine (lives3 _).mono ?_
  rintro e w1 ⟨rfl, q1⟩
  go_wp2_with fail
  go_ret
  exact ⟨rfl, q1⟩

set_option maxRecDepth 100000 in
set_option maxHeartbeats 1000000 in
theorem back_vse (s behind b : ByteArray) (w : World) (h1 : s.size ≤ 70000) (h2 : behind.size ≤ 1000) (h3 : b.size ≤ 70000) (hv : validOf s.data.toList = true) (h65 : s.size ≤ 65535) (z : Nat) (hz0 : z ≠ 0) (hz : z < 10) (hr : rdT b.data.toList = ([], 0, z)) :
    Calls Try.prog 5 #[.string s, .string behind, .string b] w fun e w' => e = .returned (.bool true) ∧ Below w.heap.size w w' := by
  have V := valid_is s true (by omega) hv
  have hw := written s behind h1 h2
  have hsz := hw.size
  have hsum := hw.sum
  have T : R3 12 s (.tuple #[.string (bs (enc2 s.data.toList)), .int .i64 0]) := Lib.hid fun W => text_yes s W hv
  have RB := read_back s behind h1 h2 hv
  have B : R3 13 s (.tuple #[.string (bs (enc2 s.data.toList)), .int .i64 0]) := Lib.hid fun W => binary_yes s W h65
  have RC := readbin_back s behind h65 h2
  have R : R3 14 b (.tuple #[.string ⟨#[]⟩, .int .i64 0, .int .i64 (z : Int)]) := Lib.hid fun W => by have h := read_any b W (by omega); rw [hr] at h; exact h
  have hz1 : ¬ (z : Int) = 0 := by omega
  generalize bs (enc2 s.data.toList) = a at *
  clear hv hr hw hz0 hz
  go_enter Try.func5, Try.ntmps5
  go_wp2_with fail
  refine (lives3 _).mono ?_
  rintro e w1 ⟨rfl, q1⟩
  go_wp2_with fail
  refine (T.out _).mono ?_
  rintro e w2 ⟨rfl, q2⟩
  go_wp2_with fail
  refine (RB.out _).mono ?_
  rintro e w3 ⟨rfl, q3⟩
  go_wp2_with fail
  refine (V.out _).mono ?_
  rintro e w4 ⟨rfl, q4⟩
  go_wp2_with fail
  refine (B.out _).mono ?_
  rintro e w5 ⟨rfl, q5⟩
  go_wp2_with fail
  refine (RC.out _).mono ?_
  rintro e w6 ⟨rfl, q6⟩
  go_wp2_with fail
  refine (R.out _).mono ?_
  rintro e w7 ⟨rfl, q7⟩
  go_wp2_with fail
  go_ret
  exact ⟨rfl, (below_then (below_then (below_then (below_then (below_then (below_then q1 q2) q3) q4) q5) q6) q7)⟩

set_option maxRecDepth 100000 in
set_option maxHeartbeats 1000000 in
theorem back_vso (s behind b : ByteArray) (w : World) (h1 : s.size ≤ 70000) (h2 : behind.size ≤ 1000) (h3 : b.size ≤ 70000) (hv : validOf s.data.toList = true) (h65 : s.size ≤ 65535) (d : List UInt8) (z : Nat) (hr : rdT b.data.toList = (d, z, 0)) (hd : validOf d = true) (hz : z ≤ b.data.toList.length) (ht : b.data.toList.take z = enc2 d) :
    Calls Try.prog 5 #[.string s, .string behind, .string b] w fun e w' => e = .returned (.bool true) ∧ Below w.heap.size w w' := by
  have V := valid_is s true (by omega) hv
  have hw := written s behind h1 h2
  have hsz := hw.size
  have hsum := hw.sum
  have T : R3 12 s (.tuple #[.string (bs (enc2 s.data.toList)), .int .i64 0]) := Lib.hid fun W => text_yes s W hv
  have RB := read_back s behind h1 h2 hv
  have B : R3 13 s (.tuple #[.string (bs (enc2 s.data.toList)), .int .i64 0]) := Lib.hid fun W => binary_yes s W h65
  have RC := readbin_back s behind h65 h2
  have R : R3 14 b (.tuple #[.string (bs d), .int .i64 (z : Int), .int .i64 0]) := Lib.hid fun W => by have h := read_any b W (by omega); rw [hr] at h; exact h
  have X : R3 12 (bs d) (.tuple #[.string (bs (enc2 d)), .int .i64 0]) := Lib.hid fun W => text_yes (bs d) W hd
  have hx : b.extract 0 z = bs (enc2 d) := by rw [extract_take, ht]
  have hzb : z ≤ b.size := by rw [size_list]; exact hz
  generalize bs d = td at *
  generalize bs (enc2 d) = a2 at *
  generalize bs (enc2 s.data.toList) = a at *
  clear hv hr hw hd hz ht
  go_enter Try.func5, Try.ntmps5
  go_wp2_with fail
  refine (lives3 _).mono ?_
  rintro e w1 ⟨rfl, q1⟩
  go_wp2_with fail
  refine (T.out _).mono ?_
  rintro e w2 ⟨rfl, q2⟩
  go_wp2_with fail
  refine (RB.out _).mono ?_
  rintro e w3 ⟨rfl, q3⟩
  go_wp2_with fail
  refine (V.out _).mono ?_
  rintro e w4 ⟨rfl, q4⟩
  go_wp2_with fail
  refine (B.out _).mono ?_
  rintro e w5 ⟨rfl, q5⟩
  go_wp2_with fail
  refine (RC.out _).mono ?_
  rintro e w6 ⟨rfl, q6⟩
  go_wp2_with fail
  refine (R.out _).mono ?_
  rintro e w7 ⟨rfl, q7⟩
  go_wp2_with fail
  refine (X.out _).mono ?_
  rintro e w8 ⟨rfl, q8⟩
  go_wp2_with fail
  go_ret
  exact ⟨rfl, (below_then (below_then (below_then (below_then (below_then (below_then (below_then q1 q2) q3) q4) q5) q6) q7) q8)⟩

set_option maxRecDepth 100000 in
set_option maxHeartbeats 1000000 in
theorem back_ise (s behind b : ByteArray) (w : World) (h1 : s.size ≤ 70000) (h2 : behind.size ≤ 1000) (h3 : b.size ≤ 70000) (hv : validOf s.data.toList = false) (h65 : s.size ≤ 65535) (z : Nat) (hz0 : z ≠ 0) (hz : z < 10) (hr : rdT b.data.toList = ([], 0, z)) :
    Calls Try.prog 5 #[.string s, .string behind, .string b] w fun e w' => e = .returned (.bool true) ∧ Below w.heap.size w w' := by
  have V := valid_is s false (by omega) hv
  have hw := written s behind h1 h2
  have hsz := hw.size
  have hsum := hw.sum
  have T : R3 12 s (.tuple #[.string ⟨#[]⟩, .int .i64 6]) := Lib.hid fun W => text_no s W (by omega) hv
  have B : R3 13 s (.tuple #[.string (bs (enc2 s.data.toList)), .int .i64 0]) := Lib.hid fun W => binary_yes s W h65
  have RC := readbin_back s behind h65 h2
  have R : R3 14 b (.tuple #[.string ⟨#[]⟩, .int .i64 0, .int .i64 (z : Int)]) := Lib.hid fun W => by have h := read_any b W (by omega); rw [hr] at h; exact h
  have hz1 : ¬ (z : Int) = 0 := by omega
  generalize bs (enc2 s.data.toList) = a at *
  clear hv hr hw hz0 hz
  go_enter Try.func5, Try.ntmps5
  go_wp2_with fail
  refine (lives3 _).mono ?_
  rintro e w1 ⟨rfl, q1⟩
  go_wp2_with fail
  refine (T.out _).mono ?_
  rintro e w2 ⟨rfl, q2⟩
  go_wp2_with fail
  refine (V.out _).mono ?_
  rintro e w3 ⟨rfl, q3⟩
  go_wp2_with fail
  refine (B.out _).mono ?_
  rintro e w4 ⟨rfl, q4⟩
  go_wp2_with fail
  refine (RC.out _).mono ?_
  rintro e w5 ⟨rfl, q5⟩
  go_wp2_with fail
  refine (R.out _).mono ?_
  rintro e w6 ⟨rfl, q6⟩
  go_wp2_with fail
  go_ret
  exact ⟨rfl, (below_then (below_then (below_then (below_then (below_then q1 q2) q3) q4) q5) q6)⟩

set_option maxRecDepth 100000 in
set_option maxHeartbeats 1000000 in
theorem back_iso (s behind b : ByteArray) (w : World) (h1 : s.size ≤ 70000) (h2 : behind.size ≤ 1000) (h3 : b.size ≤ 70000) (hv : validOf s.data.toList = false) (h65 : s.size ≤ 65535) (d : List UInt8) (z : Nat) (hr : rdT b.data.toList = (d, z, 0)) (hd : validOf d = true) (hz : z ≤ b.data.toList.length) (ht : b.data.toList.take z = enc2 d) :
    Calls Try.prog 5 #[.string s, .string behind, .string b] w fun e w' => e = .returned (.bool true) ∧ Below w.heap.size w w' := by
  have V := valid_is s false (by omega) hv
  have hw := written s behind h1 h2
  have hsz := hw.size
  have hsum := hw.sum
  have T : R3 12 s (.tuple #[.string ⟨#[]⟩, .int .i64 6]) := Lib.hid fun W => text_no s W (by omega) hv
  have B : R3 13 s (.tuple #[.string (bs (enc2 s.data.toList)), .int .i64 0]) := Lib.hid fun W => binary_yes s W h65
  have RC := readbin_back s behind h65 h2
  have R : R3 14 b (.tuple #[.string (bs d), .int .i64 (z : Int), .int .i64 0]) := Lib.hid fun W => by have h := read_any b W (by omega); rw [hr] at h; exact h
  have X : R3 12 (bs d) (.tuple #[.string (bs (enc2 d)), .int .i64 0]) := Lib.hid fun W => text_yes (bs d) W hd
  have hx : b.extract 0 z = bs (enc2 d) := by rw [extract_take, ht]
  have hzb : z ≤ b.size := by rw [size_list]; exact hz
  generalize bs d = td at *
  generalize bs (enc2 d) = a2 at *
  generalize bs (enc2 s.data.toList) = a at *
  clear hv hr hw hd hz ht
  go_enter Try.func5, Try.ntmps5
  go_wp2_with fail
  refine (lives3 _).mono ?_
  rintro e w1 ⟨rfl, q1⟩
  go_wp2_with fail
  refine (T.out _).mono ?_
  rintro e w2 ⟨rfl, q2⟩
  go_wp2_with fail
  refine (V.out _).mono ?_
  rintro e w3 ⟨rfl, q3⟩
  go_wp2_with fail
  refine (B.out _).mono ?_
  rintro e w4 ⟨rfl, q4⟩
  go_wp2_with fail
  refine (RC.out _).mono ?_
  rintro e w5 ⟨rfl, q5⟩
  go_wp2_with fail
  refine (R.out _).mono ?_
  rintro e w6 ⟨rfl, q6⟩
  go_wp2_with fail
  refine (X.out _).mono ?_
  rintro e w7 ⟨rfl, q7⟩
  go_wp2_with fail
  go_ret
  exact ⟨rfl, (below_then (below_then (below_then (below_then (below_then (below_then q1 q2) q3) q4) q5) q6) q7)⟩

set_option maxRecDepth 100000 in
set_option maxHeartbeats 1000000 in
theorem back_ile (s behind b : ByteArray) (w : World) (h1 : s.size ≤ 70000) (h2 : behind.size ≤ 1000) (h3 : b.size ≤ 70000) (hv : validOf s.data.toList = false) (h65 : 65535 < s.size) (z : Nat) (hz0 : z ≠ 0) (hz : z < 10) (hr : rdT b.data.toList = ([], 0, z)) :
    Calls Try.prog 5 #[.string s, .string behind, .string b] w fun e w' => e = .returned (.bool true) ∧ Below w.heap.size w w' := by
  have V := valid_is s false (by omega) hv
  have T : R3 12 s (.tuple #[.string ⟨#[]⟩, .int .i64 6]) := Lib.hid fun W => text_no s W (by omega) hv
  have B : R3 13 s (.tuple #[.string ⟨#[]⟩, .int .i64 2]) := Lib.hid fun W => (binary_no s W h65).mono fun _ _ ⟨he, hw⟩ => ⟨he, hw ▸ Below.refl _ _⟩
  have R : R3 14 b (.tuple #[.string ⟨#[]⟩, .int .i64 0, .int .i64 (z : Int)]) := Lib.hid fun W => by have h := read_any b W (by omega); rw [hr] at h; exact h
  have hz1 : ¬ (z : Int) = 0 := by omega
  clear hv hr hz0 hz
  go_enter Try.func5, Try.ntmps5
  go_wp2_with fail
  refine (lives3 _).mono ?_
  rintro e w1 ⟨rfl, q1⟩
  go_wp2_with fail
  refine (T.out _).mono ?_
  rintro e w2 ⟨rfl, q2⟩
  go_wp2_with fail
  refine (V.out _).mono ?_
  rintro e w3 ⟨rfl, q3⟩
  go_wp2_with fail
  refine (B.out _).mono ?_
  rintro e w4 ⟨rfl, q4⟩
  go_wp2_with fail
  refine (R.out _).mono ?_
  rintro e w5 ⟨rfl, q5⟩
  go_wp2_with fail
  go_ret
  exact ⟨rfl, (below_then (below_then (below_then (below_then q1 q2) q3) q4) q5)⟩

set_option maxRecDepth 100000 in
set_option maxHeartbeats 1000000 in
theorem back_ilo (s behind b : ByteArray) (w : World) (h1 : s.size ≤ 70000) (h2 : behind.size ≤ 1000) (h3 : b.size ≤ 70000) (hv : validOf s.data.toList = false) (h65 : 65535 < s.size) (d : List UInt8) (z : Nat) (hr : rdT b.data.toList = (d, z, 0)) (hd : validOf d = true) (hz : z ≤ b.data.toList.length) (ht : b.data.toList.take z = enc2 d) :
    Calls Try.prog 5 #[.string s, .string behind, .string b] w fun e w' => e = .returned (.bool true) ∧ Below w.heap.size w w' := by
  have V := valid_is s false (by omega) hv
  have T : R3 12 s (.tuple #[.string ⟨#[]⟩, .int .i64 6]) := Lib.hid fun W => text_no s W (by omega) hv
  have B : R3 13 s (.tuple #[.string ⟨#[]⟩, .int .i64 2]) := Lib.hid fun W => (binary_no s W h65).mono fun _ _ ⟨he, hw⟩ => ⟨he, hw ▸ Below.refl _ _⟩
  have R : R3 14 b (.tuple #[.string (bs d), .int .i64 (z : Int), .int .i64 0]) := Lib.hid fun W => by have h := read_any b W (by omega); rw [hr] at h; exact h
  have X : R3 12 (bs d) (.tuple #[.string (bs (enc2 d)), .int .i64 0]) := Lib.hid fun W => text_yes (bs d) W hd
  have hx : b.extract 0 z = bs (enc2 d) := by rw [extract_take, ht]
  have hzb : z ≤ b.size := by rw [size_list]; exact hz
  generalize bs d = td at *
  generalize bs (enc2 d) = a2 at *
  clear hv hr hd hz ht
  go_enter Try.func5, Try.ntmps5
  go_wp2_with fail
  refine (lives3 _).mono ?_
  rintro e w1 ⟨rfl, q1⟩
  go_wp2_with fail
  refine (T.out _).mono ?_
  rintro e w2 ⟨rfl, q2⟩
  go_wp2_with fail
  refine (V.out _).mono ?_
  rintro e w3 ⟨rfl, q3⟩
  go_wp2_with fail
  refine (B.out _).mono ?_
  rintro e w4 ⟨rfl, q4⟩
  go_wp2_with fail
  refine (R.out _).mono ?_
  rintro e w5 ⟨rfl, q5⟩
  go_wp2_with fail
  refine (X.out _).mono ?_
  rintro e w6 ⟨rfl, q6⟩
  go_wp2_with fail
  go_ret
  exact ⟨rfl, (below_then (below_then (below_then (below_then (below_then q1 q2) q3) q4) q5) q6)⟩

theorem back_walk (s behind b : ByteArray) (w : World) (ha : s.size ≤ 9223372036854775807) (hb : behind.size ≤ 9223372036854775807) (hc : b.size ≤ 9223372036854775807) :
    Calls Try.prog 5 #[.string s, .string behind, .string b] w fun e w' => e = .returned (.bool true) ∧ Below w.heap.size w w' := by
  by_cases h1 : 70000 < s.size
  · exact back_far_s s behind b w ha hb hc h1
  by_cases h2 : 1000 < behind.size
  · exact back_far_b s behind b w ha hb hc h1 h2
  by_cases h3 : 70000 < b.size
  · exact back_far_c s behind b w ha hb hc h1 h2 h3
  have k1 : s.size ≤ 70000 := by omega
  have k2 : behind.size ≤ 1000 := by omega
  have k3 : b.size ≤ 70000 := by omega
  cases hv : validOf s.data.toList with
  | true =>
    have h65 := ((validOf_iff _).1 hv).1
    rw [← size_list] at h65
    rcases rdT_cases b.data.toList with ⟨z, hz0, hz, hr⟩ | ⟨d, z, hr, hd, hz, ht⟩
    · exact back_vse s behind b w k1 k2 k3 hv h65 z hz0 hz hr
    · exact back_vso s behind b w k1 k2 k3 hv h65 d z hr hd hz ht
  | false =>
    rcases Nat.lt_or_ge 65535 s.size with h65 | h65
    · rcases rdT_cases b.data.toList with ⟨z, hz0, hz, hr⟩ | ⟨d, z, hr, hd, hz, ht⟩
      · exact back_ile s behind b w k1 k2 k3 hv h65 z hz0 hz hr
      · exact back_ilo s behind b w k1 k2 k3 hv h65 d z hr hd hz ht
    · rcases rdT_cases b.data.toList with ⟨z, hz0, hz, hr⟩ | ⟨d, z, hr, hd, hz, ht⟩
      · exact back_ise s behind b w k1 k2 k3 hv h65 z hz0 hz hr
      · exact back_iso s behind b w k1 k2 k3 hv h65 d z hr hd hz ht

set_option maxRecDepth 100000 in
theorem back_lifted (os : Os) (started : os.Started) (H : Type) (enc : TypeId × Value → H) :
    ReturnsInHanded {} Try.checked os 5 .any (Rows.ustringBackSpec.pre6 enc Try.prog Try.f5 Rows.ustringBackRow.domain false) (Rows.ustringBackSpec.post enc Try.prog Try.f5 false true false false) := by
  refine returnsInHanded_of_change (C := Try.checked) own started (by kernel_rfl) Try.func5
    (ChangeSpec.witness6 (enc := enc) (C := Try.checked) false ⟨#[], #[.string .empty, .string .empty, .string .empty], []⟩ 8 (by kernel_rfl) (by kernel_rfl) (by kernel_rfl) (by kernel_rfl)) ?_
  intro W base args ds gs before hval0 hW hcnd _
  have hval : ∀ (j : Nat) t v, Try.f5.params[j]? = some t → args[j]? = some v → Value.okWide Try.prog W .any base t v := hval0
  have hW' := hW
  obtain ⟨p, q, hA0, hV, rfl, hfz, hnd⟩ := hW
  have hA : DataW.TrodAll enc Try.prog W 0 (fun _ => true) true Try.f5.params.toList args.toList ds p := hA0
  rw [Try.params5] at hA hval
  obtain ⟨v0, vs0, d0, ds0, p0, q0, hargs0, rfl, rfl, h0, r0⟩ := trodAll_cons hA
  obtain ⟨v1, vs1, d1, ds1, p1, q1, rfl, rfl, rfl, h1, r1⟩ := trodAll_cons r0
  obtain ⟨v2, vs2, d2, ds2, p2, q2, rfl, rfl, rfl, h2, r2⟩ := trodAll_cons r1
  obtain ⟨rfl, rfl, rfl⟩ := trodAll_nil r2
  obtain rfl : args = #[v0, v1, v2] := by cases args; simp_all
  obtain ⟨rfl, rfl⟩ := trodVars_none hV
  obtain ⟨a0, rfl, rfl, rfl, w0⟩ := open_string Try.underlying9 (hval 0 9 v0 rfl rfl) h0
  unfold maxLen at w0
  obtain ⟨a1, rfl, rfl, rfl, w1⟩ := open_string Try.underlying9 (hval 1 9 v1 rfl rfl) h1
  unfold maxLen at w1
  obtain ⟨a2, rfl, rfl, rfl, w2⟩ := open_string Try.underlying9 (hval 2 9 v2 rfl rfl) h2
  unfold maxLen at w2
  refine (back_walk a0 a1 a2 W (by omega) (by omega) (by omega)).mono fun e W' ⟨he, hb⟩ => ?_
  subst he
  exact ⟨_, rfl, law_post (tb := 4) laidOut (by decide +kernel) (by kernel_rfl) Try.underlying4 rfl hW' rfl hb⟩

theorem ustringBack_holds : Rows.UstringBackSaid :=
  OpenClaim.holds_of_wide 5 Try.f5 rfl rfl rfl rfl rfl rfl rfl ⟨rfl, rfl, rfl, rfl, rfl⟩ rfl rfl rfl rfl rfl (by kernel_rfl) Try.func5 (by kernel_rfl)
    (of_decide_eq_true (by kernel_rfl)) (by unfold Func.isWrapper; first | (rw [if_pos (by decide +kernel)]; kernel_rfl) | (rw [if_neg (by decide +kernel)]; exact ⟨rfl, rfl⟩))
    (fun os started H enc _ => back_lifted os started H enc)
end Go.Proofs.Ytohbhmffgaijgaa
