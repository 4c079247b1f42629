/-
  The contracts of what tells whether a code point begins: strings.HasPrefix at the replacement's bytes, begins, and utf8.RuneLen. No condition but the length of a string.
-/
import Derived.Test.YtjbgnlnchchgcaaDoorBytesKit
import Derived.Test.YtjbgnlnchchgcaaDoorUsPlain
namespace Go.Proofs.YtjbgnlnchchgcaaDoor
open Go.RowKit

theorem bs_of (s : ByteArray) : bs s.data.toList = s := rfl
theorem size_list (s : ByteArray) : s.size = s.data.toList.length := by simp

theorem cb_fffd : cb 65533 = [239, 191, 189] := by decide
/-- Whether the bytes of U+FFFD stand ahead. -/
theorem extract3 (s : ByteArray) : ((s.extract 0 3).toList == [239, 191, 189]) = decide (s.data.toList.take 3 = [239, 191, 189]) := by
  rw [toList_data]
  have : (s.extract 0 3).data.toList = s.data.toList.take 3 := by simp [List.extract_eq_take_drop]
  rw [this, Bool.eq_iff_iff]
  simp

theorem has_yes (s : ByteArray) (w : World) (h : ∃ r, s.data.toList = [239, 191, 189] ++ r) :
    Calls Tryd.prog 97 #[.string s, .string ⟨#[239, 191, 189]⟩] w fun e w' => e = .returned (.bool true) ∧ w = w' := by
  obtain ⟨r, h⟩ := h
  have h3 : 3 ≤ s.size := by rw [size_list, h]; simp
  have hq : ((s.extract 0 3).toList == [239, 191, 189]) = true := by rw [extract3, h]; simp
  go_enter Tryd.func97, Tryd.ntmps97
  go_wp2
  go_ret
  exact ⟨rfl, rfl⟩
theorem has_no (s : ByteArray) (w : World) (h : ¬ ∃ r, s.data.toList = [239, 191, 189] ++ r) :
    Calls Tryd.prog 97 #[.string s, .string ⟨#[239, 191, 189]⟩] w fun e w' => e = .returned (.bool false) ∧ w = w' := by
  by_cases h3 : 3 ≤ s.size
  · have hq : ((s.extract 0 3).toList == [239, 191, 189]) = false := by
      rw [extract3, decide_eq_false_iff_not]
      intro e
      exact h ⟨s.data.toList.drop 3, by rw [← e]; exact (List.take_append_drop 3 _).symm⟩
    go_enter Tryd.func97, Tryd.ntmps97
    go_wp2
    go_ret
    exact ⟨rfl, rfl⟩
  · have h4 : s.size < 3 := by omega
    clear h3
    go_enter Tryd.func97, Tryd.ntmps97
    go_wp2
    go_ret
    exact ⟨rfl, rfl⟩
theorem has_any (s : ByteArray) (w : World) (b : Bool) (h : b = true ↔ ∃ r, s.data.toList = [239, 191, 189] ++ r) :
    Calls Tryd.prog 92 #[.string s, .string ⟨#[239, 191, 189]⟩] w fun e w' => e = .returned (.bool b) ∧ w = w' := by
  have hc : Calls Tryd.prog 97 #[.string s, .string ⟨#[239, 191, 189]⟩] w fun e w' => e = .returned (.bool b) ∧ w = w' := by
    cases b with
    | true => exact has_yes s w (h.1 rfl)
    | false => exact has_no s w (fun e => by cases h.2 e)
  have hc := Lib.hid hc
  go_enter Tryd.func92, Tryd.ntmps92
  go_wp2_with fail
  refine (hc.out).mono ?_
  rintro e W ⟨rfl, rfl⟩
  go_wp2_with fail
  go_ret
  exact ⟨rfl, rfl⟩

/-- begins, of a code point that is not U+FFFD. -/
theorem begins_other (s : ByteArray) (c : Nat) (w : World) (hc : c ≠ 65533) (hm : c < 2147483648) :
    Calls Tryd.prog 89 #[.string s, .int .i32 c] w fun e w' => e = .returned (.bool (decide (c ≠ 0))) ∧ w = w' := by
  have h1 : ¬ (c : Int) = 65533 := by omega
  by_cases h0 : c = 0
  · subst h0
    go_enter Tryd.func89, Tryd.ntmps89
    go_wp2
    go_ret
    exact ⟨rfl, rfl⟩
  · have h2 : ¬ (c : Int) = 0 := by omega
    have e : decide (c ≠ 0) = true := by simp [h0]
    rw [e]
    go_enter Tryd.func89, Tryd.ntmps89
    go_wp2
    go_ret
    exact ⟨by simp [h0], rfl⟩
theorem begins_fffd (s : ByteArray) (b : Bool) (w : World) (h : b = true ↔ ∃ r, s.data.toList = [239, 191, 189] ++ r) :
    Calls Tryd.prog 89 #[.string s, .int .i32 65533] w fun e w' => e = .returned (.bool b) ∧ w = w' := by
  have hc := Lib.hid (has_any s w b h)
  clear h
  go_enter Tryd.func89, Tryd.ntmps89
  go_wp2_with fail
  refine (hc.out).mono ?_
  rintro e W ⟨rfl, rfl⟩
  go_wp2_with fail
  go_ret
  exact ⟨rfl, rfl⟩
theorem begins_yes (s : ByteArray) (c : Nat) (w : World) (h : hd s.data.toList = some c) :
    Calls Tryd.prog 89 #[.string s, .int .i32 c] w fun e w' => e = .returned (.bool true) ∧ w = w' := by
  obtain ⟨ho, r, hr⟩ := hd_some h
  by_cases hc : c = 65533
  · subst hc
    exact begins_fffd s true w ⟨fun _ => ⟨r, by rw [hr, cb_fffd]⟩, fun _ => rfl⟩
  · have hb := begins_other s c w hc (by have := ho.2; omega)
    have e : decide (c ≠ 0) = true := by have := ho.1; simp; omega
    rwa [e] at hb
theorem begins_no (s : ByteArray) (w : World) (h0 : s.data.toList ≠ []) (h : hd s.data.toList = none) :
    Calls Tryd.prog 89 #[.string s, .int .i32 (dl s.data.toList).1] w fun e w' => e = .returned (.bool false) ∧ w = w' := by
  rcases hd_none h0 h with hc | hc
  · rw [hc]
    refine begins_fffd s false w ⟨fun e => (by cases e), fun ⟨r, hr⟩ => ?_⟩
    rw [← cb_fffd] at hr
    rw [hr, hd_cb (by unfold okc; omega)] at h
    cases h
  · rw [hc]
    exact begins_other s 0 w (by decide) (by decide)

/-- utf8.RuneLen, of a code point that may be there. -/
theorem runelen (c : Nat) (w : World) (h : okc c) :
    Calls Tryd.prog 83 #[.int .i32 c] w fun e w' => e = .returned (.int .i64 (cb c).length) ∧ w = w' := by
  obtain ⟨h0, h1⟩ := h
  have hz : ¬ (c : Int) < 0 := by omega
  rw [cb_length]
  by_cases h2 : c < 128
  · rw [if_pos h2]
    have k2 : (c : Int) ≤ 127 := by omega
    clear h1 h2
    go_enter Tryd.func83, Tryd.ntmps83
    go_wp2
    go_ret
    exact ⟨rfl, rfl⟩
  rw [if_neg h2]
  have k2 : ¬ (c : Int) ≤ 127 := by omega
  by_cases h3 : c < 2048
  · rw [if_pos h3]
    have k3 : (c : Int) ≤ 2047 := by omega
    clear h1 h2 h3
    go_enter Tryd.func83, Tryd.ntmps83
    go_wp2
    go_ret
    exact ⟨rfl, rfl⟩
  rw [if_neg h3]
  have k3 : ¬ (c : Int) ≤ 2047 := by omega
  by_cases h4 : c < 65536
  · rw [if_pos h4]
    have k4 : (c : Int) ≤ 65535 := by omega
    by_cases h5 : c < 55296
    · have k5 : ¬ 55296 ≤ (c : Int) := by omega
      clear h1 h2 h3 h4 h5
      go_enter Tryd.func83, Tryd.ntmps83
      go_wp2
      go_ret
      exact ⟨rfl, rfl⟩
    · have k5 : 55296 ≤ (c : Int) := by omega
      have k6 : ¬ (c : Int) ≤ 57343 := by omega
      clear h1 h2 h3 h4 h5
      go_enter Tryd.func83, Tryd.ntmps83
      go_wp2
      go_ret
      exact ⟨rfl, rfl⟩
  rw [if_neg h4]
  have k4 : ¬ (c : Int) ≤ 65535 := by omega
  have k5 : 55296 ≤ (c : Int) := by omega
  have k6 : ¬ (c : Int) ≤ 57343 := by omega
  have k7 : (c : Int) ≤ 1114111 := by omega
  clear h1 h2 h3 h4
  go_enter Tryd.func83, Tryd.ntmps83
  go_wp2
  go_ret
  exact ⟨rfl, rfl⟩
end Go.Proofs.YtjbgnlnchchgcaaDoor
