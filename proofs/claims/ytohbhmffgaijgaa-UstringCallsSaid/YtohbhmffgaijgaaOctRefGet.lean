/-
  The contracts of the reference's Get and Number (layer 1). No condition but the length of a string.
-/
import Derived.Test.YtohbhmffgaijgaaOctCur
namespace Go.Proofs.Ytohbhmffgaijgaa
open Go.RowKit

theorem part_bytes (s : ByteArray) (st p : Nat) (h : p < s.size) (hs : st ≤ p) : (s.data.toList.take (p + 1)).drop st = (s.data.toList.take p).drop st ++ [s[p]] := by
  rw [take_bytes s p h, List.drop_append_of_le_length (by simp; omega)]
theorem part_lt (s : ByteArray) (st p : Nat) (hp : p < st + 8) : num ((s.data.toList.take p).drop st) < 72057594037927936 := by
  have h := num_lt ((s.data.toList.take p).drop st)
  have hl : ((s.data.toList.take p).drop st).length ≤ 7 := by simp; omega
  have := Nat.pow_le_pow_right (show 0 < 256 by decide) hl
  omega

set_option maxHeartbeats 400000 in
theorem ref_get_small (s : ByteArray) (w : World) (hs : s.size ≤ 8) :
    Calls Try.prog 38 #[.string s] w fun e w' => e = .returned (.int .u64 (numOf s)) ∧ w = w' := by
  have e0 : numOf s = num ((s.data.toList.take s.size).drop 0) := by
    unfold numOf
    rw [show s.size - 8 = 0 by omega, List.take_of_length_le (by simp)]
  rw [e0]
  clear e0
  go_enter Try.func38, Try.ntmps38
  go_wp2
  go_loop [3, 4] (fun v i => ∃ k : Nat, k ≤ s.size ∧ i = .int .i64 k ∧ v = .int .u64 (num ((s.data.toList.take k).drop 0))) (fun _ i => s.size - (intOf i).toNat)
  case atStart => exact ⟨0, Nat.zero_le _, rfl, rfl⟩
  case round =>
    obtain ⟨k, hk, rfl, rfl⟩ := hrel
    by_cases hlt : k < s.size
    · have E := Lib.hid (part_bytes s 0 k hlt (Nat.zero_le _))
      have L := Lib.hid (part_lt s 0 k (by omega))
      generalize (s.data.toList.take k).drop 0 = l at E L
      go_wp2
      go_round
      case rel => exact ⟨k + 1, by omega, by go_num, by rw [or_step _ _ L.out, E.out, num_snoc]⟩
      case measure => simp [intOf]; omega
    · obtain rfl : k = s.size := by omega
      go_wp2
      go_ret
      exact ⟨rfl, rfl⟩

set_option maxHeartbeats 400000 in
theorem ref_get_great (s : ByteArray) (st : Nat) (w : World) (hs : st + 8 = s.size) (h0 : 0 < st) (hm : s.size ≤ 9223372036854775807) :
    Calls Try.prog 38 #[.string s] w fun e w' => e = .returned (.int .u64 (numOf s)) ∧ w = w' := by
  have e0 : numOf s = num ((s.data.toList.take s.size).drop st) := by
    unfold numOf
    rw [show s.size - 8 = st by omega, List.take_of_length_le (by simp)]
  rw [e0]
  clear e0
  have h1 : st + 8 ≤ s.size := by omega
  have h2 : s.size ≤ st + 8 := by omega
  clear hs
  go_enter Try.func38, Try.ntmps38
  go_wp2
  go_loop [3, 4] (fun v i => ∃ k : Nat, st ≤ k ∧ k ≤ s.size ∧ i = .int .i64 k ∧ v = .int .u64 (num ((s.data.toList.take k).drop st))) (fun _ i => s.size - (intOf i).toNat)
  case atStart =>
    refine ⟨st, Nat.le_refl _, by omega, by congr 1; omega, ?_⟩
    rw [List.drop_of_length_le (by simp; omega)]
    rfl
  case round =>
    obtain ⟨k, hk0, hk, rfl, rfl⟩ := hrel
    by_cases hlt : k < s.size
    · have E := Lib.hid (part_bytes s st k hlt hk0)
      have L := Lib.hid (part_lt s st k (by omega))
      generalize (s.data.toList.take k).drop st = l at E L
      go_wp2
      go_round
      case rel => exact ⟨k + 1, by omega, by omega, by go_num, by rw [or_step _ _ L.out, E.out, num_snoc]⟩
      case measure => simp [intOf]; omega
    · obtain rfl : k = s.size := by omega
      go_wp2
      go_ret
      exact ⟨rfl, rfl⟩

theorem ref_get (s : ByteArray) (w : World) (hm : s.size ≤ 9223372036854775807) :
    Calls Try.prog 38 #[.string s] w fun e w' => e = .returned (.int .u64 (numOf s)) ∧ w = w' := by
  by_cases h : s.size ≤ 8
  · exact ref_get_small s w h
  · exact ref_get_great s (s.size - 8) w (by omega) (by omega) hm
end Go.Proofs.Ytohbhmffgaijgaa
